import Derived.Test.YtkijpphmiogbbaaGreatDoorK29
import Derived.Test.YtkijpphmiogbbaaGreatDoorK15
import Derived.Test.YtkijpphmiogbbaaGreatDoorK21
namespace Go.Proofs.YtkijpphmiogbbaaGreatDoor
open Go.RowKit
attribute [local go_sem ↓] Go.wp_at_zero Go.wp_at_succ

set_option maxHeartbeats 1000000 in
set_option maxRecDepth 20000 in
theorem modulo_none (q : Int) (u v : Nat) (l : Value) (w : World) (h1 : (q == 3329) = false) (h2 : (q == 8380417) = false) :
    Calls Tryz.prog 102 #[.int .i64 q, .func (.func u) #[] #[], .func (.func v) #[] #[], l] w fun e w' => e = .returned (.tuple #[.agg (polyA .i64 (fun _ => 0)), .iface 138 (.int .i64 1)]) ∧ w.grownBy w' none := by
  have t1 := fns_boxed w (.func (.func u) #[] #[]) (.func (.func v) #[] #[]) 231 232 71
  rw [← Tryz.z24] at t1
  obtain ⟨g1, c1, c2, z1⟩ := t1
  go_enter Tryz.func102, Tryz.ntmps102
  go_wp2_with (first | (refine wpL_store rfl .i64 71 _ _ rfl (w.heap.size + 1 + 1) 0 rfl (fun _ => 0) (by rw [← Tryz.z24]; rfl) .i64 _ z1 Tryz.sP ?_; intro w6 p6))
  refine bodyPost_ret (res2 rfl .i64 _ w6 (w.heap.size + 1 + 1) _ _ rfl rfl p6.r ⟨_, Tryz.uP⟩ Tryz.sP) rfl ⟨rfl, grown_new g1 p6.g (by omega)⟩
set_option maxHeartbeats 1000000 in
set_option maxRecDepth 20000 in
theorem forward_none (q : Int) (L : Nat → Int) (w : World) (h1 : (q == 3329) = false) (h2 : (q == 8380417) = false) :
    Calls Tryz.prog 53 #[.int .i64 q, .agg (polyA .i64 L)] w fun e w' => e = .returned (.tuple #[.agg (polyA .i64 (fun _ => 0)), .iface 138 (.int .i64 1)]) ∧ w.grownBy w' none := by
  have n1 := new_alloc .i64 w L 71
  have n2 := new_alloc .i64 (w.alloc (.cells (polyA .i64 L) 71)) (fun _ => 0) 71
  rw [← Tryz.z24] at n2
  have z2 := n2.r
  rw [n1.s] at z2
  go_enter Tryz.func53, Tryz.ntmps53
  go_wp2_with (first | (refine wpL_load rfl .i64 71 _ rfl w.heap.size 0 rfl _ (n1.r.new n2.g) ⟨_, Tryz.uP⟩ Tryz.sP ?_) | (refine wpL_bs1 rfl _ rfl L rfl ?_; intro w3 n3))
  refine (modulo_none q _ _ _ w3 h1 h2).mono ?_
  rintro e w5 ⟨rfl, g5⟩
  go_wp2_with (first | (refine wpL_store rfl .i64 71 _ _ rfl (w.heap.size + 1) 0 rfl _ rfl .i64 _ ((z2.new n3.g).new g5) Tryz.sP ?_; intro w6 p6))
  refine bodyPost_ret (res2 rfl .i64 _ w6 (w.heap.size + 1) _ _ rfl rfl p6.r ⟨_, Tryz.uP⟩ Tryz.sP) rfl ⟨rfl, grown_new (grownBy_trans (grownBy_trans n1.g (grownBy_trans n2.g n3.g)) g5) p6.g (by omega)⟩
set_option maxHeartbeats 1000000 in
set_option maxRecDepth 20000 in
theorem inverse_none (q : Int) (L : Nat → Int) (w : World) (h1 : (q == 3329) = false) (h2 : (q == 8380417) = false) :
    Calls Tryz.prog 54 #[.int .i64 q, .agg (polyA .i64 L)] w fun e w' => e = .returned (.tuple #[.agg (polyA .i64 (fun _ => 0)), .iface 138 (.int .i64 1)]) ∧ w.grownBy w' none := by
  have n1 := new_alloc .i64 w L 71
  have n2 := new_alloc .i64 (w.alloc (.cells (polyA .i64 L) 71)) (fun _ => 0) 71
  rw [← Tryz.z24] at n2
  have z2 := n2.r
  rw [n1.s] at z2
  go_enter Tryz.func54, Tryz.ntmps54
  go_wp2_with (first | (refine wpL_load rfl .i64 71 _ rfl w.heap.size 0 rfl _ (n1.r.new n2.g) ⟨_, Tryz.uP⟩ Tryz.sP ?_) | (refine wpL_bs1 rfl _ rfl L rfl ?_; intro w3 n3))
  refine (modulo_none q _ _ _ w3 h1 h2).mono ?_
  rintro e w5 ⟨rfl, g5⟩
  go_wp2_with (first | (refine wpL_store rfl .i64 71 _ _ rfl (w.heap.size + 1) 0 rfl _ rfl .i64 _ ((z2.new n3.g).new g5) Tryz.sP ?_; intro w6 p6))
  refine bodyPost_ret (res2 rfl .i64 _ w6 (w.heap.size + 1) _ _ rfl rfl p6.r ⟨_, Tryz.uP⟩ Tryz.sP) rfl ⟨rfl, grown_new (grownBy_trans (grownBy_trans n1.g (grownBy_trans n2.g n3.g)) g5) p6.g (by omega)⟩
set_option maxHeartbeats 1000000 in
set_option maxRecDepth 20000 in
theorem product_none (q : Int) (F G : Nat → Int) (w : World) (h1 : (q == 3329) = false) (h2 : (q == 8380417) = false) :
    Calls Tryz.prog 55 #[.int .i64 q, .agg (polyA .i64 F), .agg (polyA .i64 G)] w fun e w' => e = .returned (.tuple #[.agg (polyA .i64 (fun _ => 0)), .iface 138 (.int .i64 1)]) ∧ w.grownBy w' none := by
  have n1 := new_alloc .i64 w F 71
  have n2 := new_alloc .i64 (w.alloc (.cells (polyA .i64 F) 71)) G 71
  have n3 := new_alloc .i64 ((w.alloc (.cells (polyA .i64 F) 71)).alloc (.cells (polyA .i64 G) 71)) (fun _ => 0) 71
  rw [← Tryz.z24] at n3
  have f3 := (n1.r.new n2.g).new n3.g
  have h3 := n2.r.new n3.g
  rw [n1.s] at h3
  have z3 := n3.r
  rw [n2.s, n1.s] at z3
  have g3 := grownBy_trans n1.g (grownBy_trans n2.g n3.g)
  clear n1 n2 n3
  go_enter Tryz.func55, Tryz.ntmps55
  go_wp2_with (first | (refine wpL_load rfl .i64 71 _ rfl w.heap.size 0 rfl _ f3 ⟨_, Tryz.uP⟩ Tryz.sP ?_) | (refine wpL_load rfl .i64 71 _ rfl (w.heap.size + 1) 0 rfl _ h3 ⟨_, Tryz.uP⟩ Tryz.sP ?_) | (refine wpL_bs2 rfl _ _ rfl F G rfl rfl ?_; intro w4 g4 a4 b4))
  refine (modulo_none q _ _ _ w4 h1 h2).mono ?_
  rintro e w5 ⟨rfl, g5⟩
  go_wp2_with (first | (refine wpL_store rfl .i64 71 _ _ rfl (w.heap.size + 1 + 1) 0 rfl _ rfl .i64 _ ((z3.new g4).new g5) Tryz.sP ?_; intro w6 p6))
  refine bodyPost_ret (res2 rfl .i64 _ w6 (w.heap.size + 1 + 1) _ _ rfl rfl p6.r ⟨_, Tryz.uP⟩ Tryz.sP) rfl ⟨rfl, grown_new (grownBy_trans (grownBy_trans g3 g4) g5) p6.g (by omega)⟩
end Go.Proofs.YtkijpphmiogbbaaGreatDoor

namespace Go.Proofs.YtkijpphmiogbbaaGreatDoor
open Go.RowKit
attribute [local go_sem ↓] Go.wp_at_zero Go.wp_at_succ

def hidN16 (p v : Value) := Instr.storeAt 160 p v
theorem hideN16 (p v : Value) : Instr.storeAt 160 p v = hidN16 p v := rfl
theorem run_hidN16 (W : World) (b : Nat) (L M : Nat → Int) (hr : PRow .u16 W b 0 M) : (hidN16 (.pointer (some ⟨b, 0, none⟩)) (.agg (polyA .u16 L))).run Tryz.prog W = .ok () (W.setCells b 0 (polyA .u16 L).toList) :=
  run_storeAt_mid W b 0 160 (polyA .u16 L) (hr.there .u16 L) (by rw [polyA_size]; exact Tryz.sQ16) (polyA_one .u16 L)
section
attribute [local go_sem ↓] hideN16
set_option maxHeartbeats 1000000 in
set_option maxRecDepth 20000 in
theorem narrow16_bad (L : Nat → Int) (n : Int) (w : World) (k0 : Nat) (hk0 : k0 < 256) (hL : ∀ i, i < k0 → 0 ≤ L i ∧ L i < n) (hbad : L k0 < 0 ∨ n ≤ L k0) (hn' : n ≤ 65536) :
    Calls Tryz.prog 293 #[.agg (polyA .i64 L), .int .i64 n] w fun e w' => e = .returned (.tuple #[.agg (polyA .u16 (fun _ => 0)), .iface 138 (.int .i64 5)]) ∧ w.grownBy w' none := by
  have HL : Hid (∀ i, i < k0 → 0 ≤ L i ∧ L i < n) := hL
  clear hL
  go_enter Tryz.func293, Tryz.ntmps293
  have n1 := new_alloc .i64 w L 71
  go_wp2_with (first | (refine wpL_load rfl .i64 71 _ rfl w.heap.size 0 rfl L (((n1.r).new (World.grownBy_alloc _ _ none)).new (World.grownBy_alloc _ _ none)) ⟨_, Tryz.uP⟩ Tryz.sP ?_))
  have n2 := new_alloc .u16 (w.alloc (.cells (polyA .i64 L) 71)) (fun _ => 0) 160
  rw [← Tryz.zQ16] at n2
  have n3 := new_alloc .u16 ((w.alloc (.cells (polyA .i64 L) 71)).alloc (.cells Tryz.zeroCells160 160)) (fun _ => 0) 160
  rw [← Tryz.zQ16] at n3
  generalize ((w.alloc (.cells (polyA .i64 L) 71)).alloc (.cells Tryz.zeroCells160 160)).alloc (.cells Tryz.zeroCells160 160) = w3 at *
  generalize (w.alloc (.cells (polyA .i64 L) 71)).alloc (.cells Tryz.zeroCells160 160) = w2 at *
  have hA : PRow .u16 w3 (w.heap.size + 1) 0 (fun _ => 0) := by have := n2.r.new n3.g; rw [n1.s] at this; exact this
  have hR : PRow .u16 w3 (w.heap.size + 2) 0 (fun _ => 0) := by have := n3.r; rw [n2.s, n1.s] at this; exact this
  have hg : w.grownBy w3 none := grownBy_trans n1.g (grownBy_trans n2.g n3.g)
  clear n1 n2 n3
  obtain ⟨B, hB⟩ : ∃ B, B = w.heap.size := ⟨_, rfl⟩
  rw [← hB] at hA hR ⊢
  have hB' : w.heap.size ≤ B := by omega
  clear hB
  go_loopw [7, 8, 10] (fun _ _ i wr => ∃ k : Nat, k ≤ k0 ∧ i = .int .i64 k ∧ w.grownBy wr none ∧ PRow .u16 wr (B + 1) 0 (fun _ => 0) ∧ PRow .u16 wr (B + 2) 0 (fun j => if j < k then L j else 0)) (fun _ _ i _ => 256 - (intOf i).toNat)
  case atStart => exact ⟨0, by omega, rfl, hg, hA, hR.ext (fun j _ => by simp)⟩
  case round =>
    clear hA hR hg
    obtain ⟨k, hk, rfl, hg, hA, hR⟩ := hrel
    by_cases hlt : k < k0
    · have b0 : (0 : Int) ≤ (k : Int) := by omega
      have b1 : (k : Int) < 256 := by omega
      have h256 : k < 256 := by omega
      have l0 := (HL.out k hlt).1
      have l1 := (HL.out k hlt).2
      have l2 : decide (L k < 0) = false := by simp; omega
      have l3 : decide (n ≤ L k) = false := by simp; omega
      have ix := fun W => ixP L k h256 W
      have cv : IntKind.u16.wrap (L k) = L k := by rw [IntKind.wrap_u16]; omega
      have cc := (hR.at0 k h256).1
      have ff := (hR.at0 k h256).2
      go_wp2
      go_roundw
      case rel =>
        refine ⟨k + 1, by omega, by go_num, grown_setNew hg (by simp; omega) _, hA.set_other (by simp) _, (hR.set0 h256 _).ext (fun j _ => mix_step _ _ k j)⟩
      case measure => simp [intOf]; omega
    · have hk6 : k = k0 := by omega
      subst hk6
      have b0 : (0 : Int) ≤ (k : Int) := by omega
      have b1 : (k : Int) < 256 := by omega
      have ix := fun W => ixP L k hk0 W
      have st := run_hidN16 wr (B + 1) (fun _ => 0) _ hA
      have p4 := put_cells .u16 wr (B + 1) 0 (fun _ => 0) (hA.there .u16 _)
      rw [← Tryz.zQ16] at st p4
      rcases hbad with hb | hb
      · have l2 : decide (L k < 0) = true := by simpa using hb
        clear hR
        go_wp2
        refine bodyPost_ret (res2 rfl .u16 _ _ (B + 1) _ _ rfl rfl p4.r Tryz.oQ16 Tryz.sQ16) rfl ⟨rfl, grown_new hg p4.g (by omega)⟩
      · by_cases hb2 : L k < 0
        · have l2 : decide (L k < 0) = true := by simpa using hb2
          clear hR
          go_wp2
          refine bodyPost_ret (res2 rfl .u16 _ _ (B + 1) _ _ rfl rfl p4.r Tryz.oQ16 Tryz.sQ16) rfl ⟨rfl, grown_new hg p4.g (by omega)⟩
        · have l2 : decide (L k < 0) = false := by simpa using hb2
          have l3 : decide (n ≤ L k) = true := by simpa using hb
          clear hR
          go_wp2
          refine bodyPost_ret (res2 rfl .u16 _ _ (B + 1) _ _ rfl rfl p4.r Tryz.oQ16 Tryz.sQ16) rfl ⟨rfl, grown_new hg p4.g (by omega)⟩
end
def hidN32 (p v : Value) := Instr.storeAt 166 p v
theorem hideN32 (p v : Value) : Instr.storeAt 166 p v = hidN32 p v := rfl
theorem run_hidN32 (W : World) (b : Nat) (L M : Nat → Int) (hr : PRow .u32 W b 0 M) : (hidN32 (.pointer (some ⟨b, 0, none⟩)) (.agg (polyA .u32 L))).run Tryz.prog W = .ok () (W.setCells b 0 (polyA .u32 L).toList) :=
  run_storeAt_mid W b 0 166 (polyA .u32 L) (hr.there .u32 L) (by rw [polyA_size]; exact Tryz.sQ32) (polyA_one .u32 L)
section
attribute [local go_sem ↓] hideN32
set_option maxHeartbeats 1000000 in
set_option maxRecDepth 20000 in
theorem narrow32_bad (L : Nat → Int) (n : Int) (w : World) (k0 : Nat) (hk0 : k0 < 256) (hL : ∀ i, i < k0 → 0 ≤ L i ∧ L i < n) (hbad : L k0 < 0 ∨ n ≤ L k0) (hn' : n ≤ 4294967296) :
    Calls Tryz.prog 122 #[.agg (polyA .i64 L), .int .i64 n] w fun e w' => e = .returned (.tuple #[.agg (polyA .u32 (fun _ => 0)), .iface 138 (.int .i64 5)]) ∧ w.grownBy w' none := by
  have HL : Hid (∀ i, i < k0 → 0 ≤ L i ∧ L i < n) := hL
  clear hL
  go_enter Tryz.func122, Tryz.ntmps122
  have n1 := new_alloc .i64 w L 71
  go_wp2_with (first | (refine wpL_load rfl .i64 71 _ rfl w.heap.size 0 rfl L (((n1.r).new (World.grownBy_alloc _ _ none)).new (World.grownBy_alloc _ _ none)) ⟨_, Tryz.uP⟩ Tryz.sP ?_))
  have n2 := new_alloc .u32 (w.alloc (.cells (polyA .i64 L) 71)) (fun _ => 0) 166
  rw [← Tryz.zQ32] at n2
  have n3 := new_alloc .u32 ((w.alloc (.cells (polyA .i64 L) 71)).alloc (.cells Tryz.zeroCells166 166)) (fun _ => 0) 166
  rw [← Tryz.zQ32] at n3
  generalize ((w.alloc (.cells (polyA .i64 L) 71)).alloc (.cells Tryz.zeroCells166 166)).alloc (.cells Tryz.zeroCells166 166) = w3 at *
  generalize (w.alloc (.cells (polyA .i64 L) 71)).alloc (.cells Tryz.zeroCells166 166) = w2 at *
  have hA : PRow .u32 w3 (w.heap.size + 1) 0 (fun _ => 0) := by have := n2.r.new n3.g; rw [n1.s] at this; exact this
  have hR : PRow .u32 w3 (w.heap.size + 2) 0 (fun _ => 0) := by have := n3.r; rw [n2.s, n1.s] at this; exact this
  have hg : w.grownBy w3 none := grownBy_trans n1.g (grownBy_trans n2.g n3.g)
  clear n1 n2 n3
  obtain ⟨B, hB⟩ : ∃ B, B = w.heap.size := ⟨_, rfl⟩
  rw [← hB] at hA hR ⊢
  have hB' : w.heap.size ≤ B := by omega
  clear hB
  go_loopw [7, 8, 10] (fun _ _ i wr => ∃ k : Nat, k ≤ k0 ∧ i = .int .i64 k ∧ w.grownBy wr none ∧ PRow .u32 wr (B + 1) 0 (fun _ => 0) ∧ PRow .u32 wr (B + 2) 0 (fun j => if j < k then L j else 0)) (fun _ _ i _ => 256 - (intOf i).toNat)
  case atStart => exact ⟨0, by omega, rfl, hg, hA, hR.ext (fun j _ => by simp)⟩
  case round =>
    clear hA hR hg
    obtain ⟨k, hk, rfl, hg, hA, hR⟩ := hrel
    by_cases hlt : k < k0
    · have b0 : (0 : Int) ≤ (k : Int) := by omega
      have b1 : (k : Int) < 256 := by omega
      have h256 : k < 256 := by omega
      have l0 := (HL.out k hlt).1
      have l1 := (HL.out k hlt).2
      have l2 : decide (L k < 0) = false := by simp; omega
      have l3 : decide (n ≤ L k) = false := by simp; omega
      have ix := fun W => ixP L k h256 W
      have cv : IntKind.u32.wrap (L k) = L k := by rw [IntKind.wrap_u32]; omega
      have cc := (hR.at0 k h256).1
      have ff := (hR.at0 k h256).2
      go_wp2
      go_roundw
      case rel =>
        refine ⟨k + 1, by omega, by go_num, grown_setNew hg (by simp; omega) _, hA.set_other (by simp) _, (hR.set0 h256 _).ext (fun j _ => mix_step _ _ k j)⟩
      case measure => simp [intOf]; omega
    · have hk6 : k = k0 := by omega
      subst hk6
      have b0 : (0 : Int) ≤ (k : Int) := by omega
      have b1 : (k : Int) < 256 := by omega
      have ix := fun W => ixP L k hk0 W
      have st := run_hidN32 wr (B + 1) (fun _ => 0) _ hA
      have p4 := put_cells .u32 wr (B + 1) 0 (fun _ => 0) (hA.there .u32 _)
      rw [← Tryz.zQ32] at st p4
      rcases hbad with hb | hb
      · have l2 : decide (L k < 0) = true := by simpa using hb
        clear hR
        go_wp2
        refine bodyPost_ret (res2 rfl .u32 _ _ (B + 1) _ _ rfl rfl p4.r Tryz.oQ32 Tryz.sQ32) rfl ⟨rfl, grown_new hg p4.g (by omega)⟩
      · by_cases hb2 : L k < 0
        · have l2 : decide (L k < 0) = true := by simpa using hb2
          clear hR
          go_wp2
          refine bodyPost_ret (res2 rfl .u32 _ _ (B + 1) _ _ rfl rfl p4.r Tryz.oQ32 Tryz.sQ32) rfl ⟨rfl, grown_new hg p4.g (by omega)⟩
        · have l2 : decide (L k < 0) = false := by simpa using hb2
          have l3 : decide (n ≤ L k) = true := by simpa using hb
          clear hR
          go_wp2
          refine bodyPost_ret (res2 rfl .u32 _ _ (B + 1) _ _ rfl rfl p4.r Tryz.oQ32 Tryz.sQ32) rfl ⟨rfl, grown_new hg p4.g (by omega)⟩
end
end Go.Proofs.YtkijpphmiogbbaaGreatDoor
