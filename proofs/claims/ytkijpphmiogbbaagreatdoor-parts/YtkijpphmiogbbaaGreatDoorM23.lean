import Derived.Test.YtkijpphmiogbbaaGreatDoorM22
import Derived.Test.YtkijpphmiogbbaaGreatDoorM11
import Derived.Test.YtkijpphmiogbbaaGreatDoorM15
import Derived.Test.YtkijpphmiogbbaaGreatDoorM12
import Derived.Test.YtkijpphmiogbbaaGreatDoorM20
namespace Go.Proofs.YtkijpphmiogbbaaGreatDoor
open Go.RowKit
attribute [local go_sem ↓] Go.wp_at_zero Go.wp_at_succ

set_option maxHeartbeats 1000000 in
set_option maxRecDepth 20000 in
theorem modulo_none (q : Int) (u v : Nat) (l : Value) (w : World) (h1 : (q == 3329) = false) (h2 : (q == 8380417) = false) :
    Calls Tryz.prog 102 #[.int .i64 q, .func (.func u) #[] #[], .func (.func v) #[] #[], l] w fun e w' => e = .returned (.tuple #[.agg (polyA .i64 (fun _ => 0)), .iface 138 (.int .i64 1)]) ∧ w.grownBy w' none := by
  have t1 := fns_boxed w (.func (.func u) #[] #[]) (.func (.func v) #[] #[]) 231 232 71
  rw [← Tryz.z24] at t1
  obtain ⟨g1, c1, c2, z1⟩ := t1
  go_enter Tryz.func102, Tryz.ntmps102
  go_wp2_with (first | (refine wpL_store rfl .i64 71 _ _ rfl (w.heap.size + 1 + 1) 0 rfl (fun _ => 0) (by rw [← Tryz.z24]; rfl) .i64 _ z1 Tryz.sP ?_; intro w6 p6))
  refine bodyPost_ret (res2 rfl .i64 _ w6 (w.heap.size + 1 + 1) _ _ rfl rfl p6.r ⟨_, Tryz.uP⟩ Tryz.sP) rfl ⟨rfl, grown_new g1 p6.g (by omega)⟩
set_option maxHeartbeats 1000000 in
set_option maxRecDepth 20000 in
theorem forward_none (q : Int) (L : Nat → Int) (w : World) (h1 : (q == 3329) = false) (h2 : (q == 8380417) = false) :
    Calls Tryz.prog 53 #[.int .i64 q, .agg (polyA .i64 L)] w fun e w' => e = .returned (.tuple #[.agg (polyA .i64 (fun _ => 0)), .iface 138 (.int .i64 1)]) ∧ w.grownBy w' none := by
  have n1 := new_alloc .i64 w L 71
  have n2 := new_alloc .i64 (w.alloc (.cells (polyA .i64 L) 71)) (fun _ => 0) 71
  rw [← Tryz.z24] at n2
  have z2 := n2.r
  rw [n1.s] at z2
  go_enter Tryz.func53, Tryz.ntmps53
  go_wp2_with (first | (refine wpL_load rfl .i64 71 _ rfl w.heap.size 0 rfl _ (n1.r.new n2.g) ⟨_, Tryz.uP⟩ Tryz.sP ?_) | (refine wpL_bs1 rfl _ rfl L rfl ?_; intro w3 n3))
  refine (modulo_none q _ _ _ w3 h1 h2).mono ?_
  rintro e w5 ⟨rfl, g5⟩
  go_wp2_with (first | (refine wpL_store rfl .i64 71 _ _ rfl (w.heap.size + 1) 0 rfl _ rfl .i64 _ ((z2.new n3.g).new g5) Tryz.sP ?_; intro w6 p6))
  refine bodyPost_ret (res2 rfl .i64 _ w6 (w.heap.size + 1) _ _ rfl rfl p6.r ⟨_, Tryz.uP⟩ Tryz.sP) rfl ⟨rfl, grown_new (grownBy_trans (grownBy_trans n1.g (grownBy_trans n2.g n3.g)) g5) p6.g (by omega)⟩
set_option maxHeartbeats 1000000 in
set_option maxRecDepth 20000 in
theorem inverse_none (q : Int) (L : Nat → Int) (w : World) (h1 : (q == 3329) = false) (h2 : (q == 8380417) = false) :
    Calls Tryz.prog 54 #[.int .i64 q, .agg (polyA .i64 L)] w fun e w' => e = .returned (.tuple #[.agg (polyA .i64 (fun _ => 0)), .iface 138 (.int .i64 1)]) ∧ w.grownBy w' none := by
  have n1 := new_alloc .i64 w L 71
  have n2 := new_alloc .i64 (w.alloc (.cells (polyA .i64 L) 71)) (fun _ => 0) 71
  rw [← Tryz.z24] at n2
  have z2 := n2.r
  rw [n1.s] at z2
  go_enter Tryz.func54, Tryz.ntmps54
  go_wp2_with (first | (refine wpL_load rfl .i64 71 _ rfl w.heap.size 0 rfl _ (n1.r.new n2.g) ⟨_, Tryz.uP⟩ Tryz.sP ?_) | (refine wpL_bs1 rfl _ rfl L rfl ?_; intro w3 n3))
  refine (modulo_none q _ _ _ w3 h1 h2).mono ?_
  rintro e w5 ⟨rfl, g5⟩
  go_wp2_with (first | (refine wpL_store rfl .i64 71 _ _ rfl (w.heap.size + 1) 0 rfl _ rfl .i64 _ ((z2.new n3.g).new g5) Tryz.sP ?_; intro w6 p6))
  refine bodyPost_ret (res2 rfl .i64 _ w6 (w.heap.size + 1) _ _ rfl rfl p6.r ⟨_, Tryz.uP⟩ Tryz.sP) rfl ⟨rfl, grown_new (grownBy_trans (grownBy_trans n1.g (grownBy_trans n2.g n3.g)) g5) p6.g (by omega)⟩
set_option maxHeartbeats 1000000 in
set_option maxRecDepth 20000 in
theorem product_none (q : Int) (F G : Nat → Int) (w : World) (h1 : (q == 3329) = false) (h2 : (q == 8380417) = false) :
    Calls Tryz.prog 55 #[.int .i64 q, .agg (polyA .i64 F), .agg (polyA .i64 G)] w fun e w' => e = .returned (.tuple #[.agg (polyA .i64 (fun _ => 0)), .iface 138 (.int .i64 1)]) ∧ w.grownBy w' none := by
  have n1 := new_alloc .i64 w F 71
  have n2 := new_alloc .i64 (w.alloc (.cells (polyA .i64 F) 71)) G 71
  have n3 := new_alloc .i64 ((w.alloc (.cells (polyA .i64 F) 71)).alloc (.cells (polyA .i64 G) 71)) (fun _ => 0) 71
  rw [← Tryz.z24] at n3
  have f3 := (n1.r.new n2.g).new n3.g
  have h3 := n2.r.new n3.g
  rw [n1.s] at h3
  have z3 := n3.r
  rw [n2.s, n1.s] at z3
  have g3 := grownBy_trans n1.g (grownBy_trans n2.g n3.g)
  clear n1 n2 n3
  go_enter Tryz.func55, Tryz.ntmps55
  go_wp2_with (first | (refine wpL_load rfl .i64 71 _ rfl w.heap.size 0 rfl _ f3 ⟨_, Tryz.uP⟩ Tryz.sP ?_) | (refine wpL_load rfl .i64 71 _ rfl (w.heap.size + 1) 0 rfl _ h3 ⟨_, Tryz.uP⟩ Tryz.sP ?_) | (refine wpL_bs2 rfl _ _ rfl F G rfl rfl ?_; intro w4 g4 a4 b4))
  refine (modulo_none q _ _ _ w4 h1 h2).mono ?_
  rintro e w5 ⟨rfl, g5⟩
  go_wp2_with (first | (refine wpL_store rfl .i64 71 _ _ rfl (w.heap.size + 1 + 1) 0 rfl _ rfl .i64 _ ((z3.new g4).new g5) Tryz.sP ?_; intro w6 p6))
  refine bodyPost_ret (res2 rfl .i64 _ w6 (w.heap.size + 1 + 1) _ _ rfl rfl p6.r ⟨_, Tryz.uP⟩ Tryz.sP) rfl ⟨rfl, grown_new (grownBy_trans (grownBy_trans g3 g4) g5) p6.g (by omega)⟩
end Go.Proofs.YtkijpphmiogbbaaGreatDoor

namespace Go.Proofs.YtkijpphmiogbbaaGreatDoor
open Go.RowKit
attribute [local go_sem ↓] Go.wp_at_zero Go.wp_at_succ

def hidN16 (p v : Value) := Instr.storeAt 160 p v
theorem hideN16 (p v : Value) : Instr.storeAt 160 p v = hidN16 p v := rfl
theorem run_hidN16 (W : World) (b : Nat) (L M : Nat → Int) (hr : PRow .u16 W b 0 M) : (hidN16 (.pointer (some ⟨b, 0, none⟩)) (.agg (polyA .u16 L))).run Tryz.prog W = .ok () (W.setCells b 0 (polyA .u16 L).toList) :=
  run_storeAt_mid W b 0 160 (polyA .u16 L) (hr.there .u16 L) (by rw [polyA_size]; exact Tryz.sQ16) (polyA_one .u16 L)
section
attribute [local go_sem ↓] hideN16
set_option maxHeartbeats 1000000 in
set_option maxRecDepth 20000 in
theorem narrow16_bad (L : Nat → Int) (n : Int) (w : World) (k0 : Nat) (hk0 : k0 < 256) (hL : ∀ i, i < k0 → 0 ≤ L i ∧ L i < n) (hbad : L k0 < 0 ∨ n ≤ L k0) (hn' : n ≤ 65536) :
    Calls Tryz.prog 293 #[.agg (polyA .i64 L), .int .i64 n] w fun e w' => e = .returned (.tuple #[.agg (polyA .u16 (fun _ => 0)), .iface 138 (.int .i64 5)]) ∧ w.grownBy w' none := by
  have HL : Hid (∀ i, i < k0 → 0 ≤ L i ∧ L i < n) := hL
  clear hL
  go_enter Tryz.func293, Tryz.ntmps293
  have n1 := new_alloc .i64 w L 71
  go_wp2_with (first | (refine wpL_load rfl .i64 71 _ rfl w.heap.size 0 rfl L (((n1.r).new (World.grownBy_alloc _ _ none)).new (World.grownBy_alloc _ _ none)) ⟨_, Tryz.uP⟩ Tryz.sP ?_))
  have n2 := new_alloc .u16 (w.alloc (.cells (polyA .i64 L) 71)) (fun _ => 0) 160
  rw [← Tryz.zQ16] at n2
  have n3 := new_alloc .u16 ((w.alloc (.cells (polyA .i64 L) 71)).alloc (.cells Tryz.zeroCells160 160)) (fun _ => 0) 160
  rw [← Tryz.zQ16] at n3
  generalize ((w.alloc (.cells (polyA .i64 L) 71)).alloc (.cells Tryz.zeroCells160 160)).alloc (.cells Tryz.zeroCells160 160) = w3 at *
  generalize (w.alloc (.cells (polyA .i64 L) 71)).alloc (.cells Tryz.zeroCells160 160) = w2 at *
  have hA : PRow .u16 w3 (w.heap.size + 1) 0 (fun _ => 0) := by have := n2.r.new n3.g; rw [n1.s] at this; exact this
  have hR : PRow .u16 w3 (w.heap.size + 2) 0 (fun _ => 0) := by have := n3.r; rw [n2.s, n1.s] at this; exact this
  have hg : w.grownBy w3 none := grownBy_trans n1.g (grownBy_trans n2.g n3.g)
  clear n1 n2 n3
  obtain ⟨B, hB⟩ : ∃ B, B = w.heap.size := ⟨_, rfl⟩
  rw [← hB] at hA hR ⊢
  have hB' : w.heap.size ≤ B := by omega
  clear hB
  go_loopw [7, 8, 10] (fun _ _ i wr => ∃ k : Nat, k ≤ k0 ∧ i = .int .i64 k ∧ w.grownBy wr none ∧ PRow .u16 wr (B + 1) 0 (fun _ => 0) ∧ PRow .u16 wr (B + 2) 0 (fun j => if j < k then L j else 0)) (fun _ _ i _ => 256 - (intOf i).toNat)
  case atStart => exact ⟨0, by omega, rfl, hg, hA, hR.ext (fun j _ => by simp)⟩
  case round =>
    clear hA hR hg
    obtain ⟨k, hk, rfl, hg, hA, hR⟩ := hrel
    by_cases hlt : k < k0
    · have b0 : (0 : Int) ≤ (k : Int) := by omega
      have b1 : (k : Int) < 256 := by omega
      have h256 : k < 256 := by omega
      have l0 := (HL.out k hlt).1
      have l1 := (HL.out k hlt).2
      have l2 : decide (L k < 0) = false := by simp; omega
      have l3 : decide (n ≤ L k) = false := by simp; omega
      have ix := fun W => ixP L k h256 W
      have cv : IntKind.u16.wrap (L k) = L k := by rw [IntKind.wrap_u16]; omega
      have cc := (hR.at0 k h256).1
      have ff := (hR.at0 k h256).2
      go_wp2
      go_roundw
      case rel =>
        refine ⟨k + 1, by omega, by go_num, grown_setNew hg (by simp; omega) _, hA.set_other (by simp) _, (hR.set0 h256 _).ext (fun j _ => mix_step _ _ k j)⟩
      case measure => simp [intOf]; omega
    · have hk6 : k = k0 := by omega
      subst hk6
      have b0 : (0 : Int) ≤ (k : Int) := by omega
      have b1 : (k : Int) < 256 := by omega
      have ix := fun W => ixP L k hk0 W
      have st := run_hidN16 wr (B + 1) (fun _ => 0) _ hA
      have p4 := put_cells .u16 wr (B + 1) 0 (fun _ => 0) (hA.there .u16 _)
      rw [← Tryz.zQ16] at st p4
      rcases hbad with hb | hb
      · have l2 : decide (L k < 0) = true := by simpa using hb
        clear hR
        go_wp2
        refine bodyPost_ret (res2 rfl .u16 _ _ (B + 1) _ _ rfl rfl p4.r Tryz.oQ16 Tryz.sQ16) rfl ⟨rfl, grown_new hg p4.g (by omega)⟩
      · by_cases hb2 : L k < 0
        · have l2 : decide (L k < 0) = true := by simpa using hb2
          clear hR
          go_wp2
          refine bodyPost_ret (res2 rfl .u16 _ _ (B + 1) _ _ rfl rfl p4.r Tryz.oQ16 Tryz.sQ16) rfl ⟨rfl, grown_new hg p4.g (by omega)⟩
        · have l2 : decide (L k < 0) = false := by simpa using hb2
          have l3 : decide (n ≤ L k) = true := by simpa using hb
          clear hR
          go_wp2
          refine bodyPost_ret (res2 rfl .u16 _ _ (B + 1) _ _ rfl rfl p4.r Tryz.oQ16 Tryz.sQ16) rfl ⟨rfl, grown_new hg p4.g (by omega)⟩
end
def hidN32 (p v : Value) := Instr.storeAt 166 p v
theorem hideN32 (p v : Value) : Instr.storeAt 166 p v = hidN32 p v := rfl
theorem run_hidN32 (W : World) (b : Nat) (L M : Nat → Int) (hr : PRow .u32 W b 0 M) : (hidN32 (.pointer (some ⟨b, 0, none⟩)) (.agg (polyA .u32 L))).run Tryz.prog W = .ok () (W.setCells b 0 (polyA .u32 L).toList) :=
  run_storeAt_mid W b 0 166 (polyA .u32 L) (hr.there .u32 L) (by rw [polyA_size]; exact Tryz.sQ32) (polyA_one .u32 L)
section
attribute [local go_sem ↓] hideN32
set_option maxHeartbeats 1000000 in
set_option maxRecDepth 20000 in
theorem narrow32_bad (L : Nat → Int) (n : Int) (w : World) (k0 : Nat) (hk0 : k0 < 256) (hL : ∀ i, i < k0 → 0 ≤ L i ∧ L i < n) (hbad : L k0 < 0 ∨ n ≤ L k0) (hn' : n ≤ 4294967296) :
    Calls Tryz.prog 122 #[.agg (polyA .i64 L), .int .i64 n] w fun e w' => e = .returned (.tuple #[.agg (polyA .u32 (fun _ => 0)), .iface 138 (.int .i64 5)]) ∧ w.grownBy w' none := by
  have HL : Hid (∀ i, i < k0 → 0 ≤ L i ∧ L i < n) := hL
  clear hL
  go_enter Tryz.func122, Tryz.ntmps122
  have n1 := new_alloc .i64 w L 71
  go_wp2_with (first | (refine wpL_load rfl .i64 71 _ rfl w.heap.size 0 rfl L (((n1.r).new (World.grownBy_alloc _ _ none)).new (World.grownBy_alloc _ _ none)) ⟨_, Tryz.uP⟩ Tryz.sP ?_))
  have n2 := new_alloc .u32 (w.alloc (.cells (polyA .i64 L) 71)) (fun _ => 0) 166
  rw [← Tryz.zQ32] at n2
  have n3 := new_alloc .u32 ((w.alloc (.cells (polyA .i64 L) 71)).alloc (.cells Tryz.zeroCells166 166)) (fun _ => 0) 166
  rw [← Tryz.zQ32] at n3
  generalize ((w.alloc (.cells (polyA .i64 L) 71)).alloc (.cells Tryz.zeroCells166 166)).alloc (.cells Tryz.zeroCells166 166) = w3 at *
  generalize (w.alloc (.cells (polyA .i64 L) 71)).alloc (.cells Tryz.zeroCells166 166) = w2 at *
  have hA : PRow .u32 w3 (w.heap.size + 1) 0 (fun _ => 0) := by have := n2.r.new n3.g; rw [n1.s] at this; exact this
  have hR : PRow .u32 w3 (w.heap.size + 2) 0 (fun _ => 0) := by have := n3.r; rw [n2.s, n1.s] at this; exact this
  have hg : w.grownBy w3 none := grownBy_trans n1.g (grownBy_trans n2.g n3.g)
  clear n1 n2 n3
  obtain ⟨B, hB⟩ : ∃ B, B = w.heap.size := ⟨_, rfl⟩
  rw [← hB] at hA hR ⊢
  have hB' : w.heap.size ≤ B := by omega
  clear hB
  go_loopw [7, 8, 10] (fun _ _ i wr => ∃ k : Nat, k ≤ k0 ∧ i = .int .i64 k ∧ w.grownBy wr none ∧ PRow .u32 wr (B + 1) 0 (fun _ => 0) ∧ PRow .u32 wr (B + 2) 0 (fun j => if j < k then L j else 0)) (fun _ _ i _ => 256 - (intOf i).toNat)
  case atStart => exact ⟨0, by omega, rfl, hg, hA, hR.ext (fun j _ => by simp)⟩
  case round =>
    clear hA hR hg
    obtain ⟨k, hk, rfl, hg, hA, hR⟩ := hrel
    by_cases hlt : k < k0
    · have b0 : (0 : Int) ≤ (k : Int) := by omega
      have b1 : (k : Int) < 256 := by omega
      have h256 : k < 256 := by omega
      have l0 := (HL.out k hlt).1
      have l1 := (HL.out k hlt).2
      have l2 : decide (L k < 0) = false := by simp; omega
      have l3 : decide (n ≤ L k) = false := by simp; omega
      have ix := fun W => ixP L k h256 W
      have cv : IntKind.u32.wrap (L k) = L k := by rw [IntKind.wrap_u32]; omega
      have cc := (hR.at0 k h256).1
      have ff := (hR.at0 k h256).2
      go_wp2
      go_roundw
      case rel =>
        refine ⟨k + 1, by omega, by go_num, grown_setNew hg (by simp; omega) _, hA.set_other (by simp) _, (hR.set0 h256 _).ext (fun j _ => mix_step _ _ k j)⟩
      case measure => simp [intOf]; omega
    · have hk6 : k = k0 := by omega
      subst hk6
      have b0 : (0 : Int) ≤ (k : Int) := by omega
      have b1 : (k : Int) < 256 := by omega
      have ix := fun W => ixP L k hk0 W
      have st := run_hidN32 wr (B + 1) (fun _ => 0) _ hA
      have p4 := put_cells .u32 wr (B + 1) 0 (fun _ => 0) (hA.there .u32 _)
      rw [← Tryz.zQ32] at st p4
      rcases hbad with hb | hb
      · have l2 : decide (L k < 0) = true := by simpa using hb
        clear hR
        go_wp2
        refine bodyPost_ret (res2 rfl .u32 _ _ (B + 1) _ _ rfl rfl p4.r Tryz.oQ32 Tryz.sQ32) rfl ⟨rfl, grown_new hg p4.g (by omega)⟩
      · by_cases hb2 : L k < 0
        · have l2 : decide (L k < 0) = true := by simpa using hb2
          clear hR
          go_wp2
          refine bodyPost_ret (res2 rfl .u32 _ _ (B + 1) _ _ rfl rfl p4.r Tryz.oQ32 Tryz.sQ32) rfl ⟨rfl, grown_new hg p4.g (by omega)⟩
        · have l2 : decide (L k < 0) = false := by simpa using hb2
          have l3 : decide (n ≤ L k) = true := by simpa using hb
          clear hR
          go_wp2
          refine bodyPost_ret (res2 rfl .u32 _ _ (B + 1) _ _ rfl rfl p4.r Tryz.oQ32 Tryz.sQ32) rfl ⟨rfl, grown_new hg p4.g (by omega)⟩
end
end Go.Proofs.YtkijpphmiogbbaaGreatDoor

namespace Go.Proofs.YtkijpphmiogbbaaGreatDoor
open Go.RowKit
attribute [local go_sem ↓] Go.wp_at_zero Go.wp_at_succ

set_option maxHeartbeats 2000000 in
set_option maxRecDepth 20000 in
theorem narrowed16_bad (Ls : Nat → Nat → Int) (n : Int) (b m cp : Nat) (w : World) (hm : m ≤ 8) (hn : n ≤ 65536) (s0 : Nat) (hs0 : s0 < m)
    (hL : ∀ s, s < s0 → ∀ i, i < 256 → 0 ≤ Ls s i ∧ Ls s i < n) (hr : ∀ s, s < m → PRow .i64 w b (256 * s) (Ls s)) (k0 : Nat) (hk0 : k0 < 256) (hb0 : ∀ i, i < k0 → 0 ≤ Ls s0 i ∧ Ls s0 i < n) (hbad : Ls s0 k0 < 0 ∨ n ≤ Ls s0 k0) :
    Calls Tryz.prog 198 #[.int .i64 n, .slice (some ⟨b, 0, none⟩) m cp] w fun e w' => e = .returned (.tuple #[.slice none 0 0, .iface 138 (.int .i64 5)]) ∧ w.grownBy w' none := by
  have HL : Hid (∀ s, s < s0 → ∀ i, i < 256 → 0 ≤ Ls s i ∧ Ls s i < n) := hL
  have HR : Hid (∀ s, s < m → PRow .i64 w b (256 * s) (Ls s)) := hr
  have HBD : Hid (∀ W, Calls Tryz.prog 293 #[.agg (polyA .i64 (Ls s0)), .int .i64 n] W fun e w' => e = .returned (.tuple #[.agg (polyA .u16 (fun _ => 0)), .iface 138 (.int .i64 5)]) ∧ W.grownBy w' none) := fun W => narrow16_bad (Ls s0) n W k0 hk0 hb0 hbad hn
  clear hL hr hb0 hbad hk0
  have hmk := mk16 m hm
  have m2 := made_rows .u16 w m 160
  have g2 := World.grownBy_alloc w (.cells (madeCells (polyA .u16 (fun _ => 0)) (m * 256)) 160) none
  go_enter Tryz.func198, Tryz.ntmps198
  go_wp2
  generalize w.alloc (.cells (madeCells (polyA .u16 (fun _ => 0)) (m * 256)) 160) = w2 at *
  obtain ⟨B, hB⟩ : ∃ B, B = w.heap.size := ⟨_, rfl⟩
  rw [← hB] at m2 ⊢
  have hN : Nar .u16 w2 B m 0 Ls := ⟨fun s hs => absurd hs (by omega), fun s _ hs => m2 s hs⟩
  have hg : w.grownBy w2 none := g2
  clear g2 m2 hmk
  have hB' : w.heap.size ≤ B := by omega
  clear hB
  go_loopw [7, 8, 9, 15] (fun _ _ _ i wr => ∃ k : Nat, k ≤ s0 ∧ i = .int .i64 k ∧ w.grownBy wr none ∧ Nar .u16 wr B m k Ls) (fun _ _ _ i _ => m - (intOf i).toNat)
  case atStart => exact ⟨0, by omega, rfl, hg, hN⟩
  case round =>
    clear hN hg
    obtain ⟨k, hk, rfl, hg, hN⟩ := hrel
    have hltm : k < m := by omega
    by_cases hlt : k < s0
    · have b0 : (0 : Int) ≤ (k : Int) := by omega
      have b1 : (k : Int) < (m : Int) := by omega
      have ix := fun W => ixPolys b m cp k hltm W
      have ix2 := fun W => ixPolys16 B m k hltm W
      have hb := (HR.out k hltm).new hg
      have n1 := new_alloc .i64 wr (fun _ => 0) 71
      rw [← Tryz.z24] at n1
      have hNw : B < wr.heap.size := (hN.left k (Nat.le_refl _) hltm).lt
      go_wp2_with (first | (refine wpL_load rfl .i64 71 _ rfl b (256 * k) rfl _ hb ⟨_, Tryz.uP⟩ Tryz.sP ?_) | (refine wpL_store rfl .i64 71 _ _ rfl wr.heap.size 0 rfl _ rfl .i64 _ n1.r Tryz.sP ?_; intro w3 p3) | (refine wpL_load rfl .i64 71 _ rfl wr.heap.size 0 rfl _ p3.r ⟨_, Tryz.uP⟩ Tryz.sP ?_) | (go_at_call 293; refine (narrow16_ok (Ls k) n _ (HL.out k hlt) hn).mono ?_; rintro e w4 ⟨rfl, g4⟩) | (refine wpL_store rfl .u16 160 _ _ rfl B (256 * k) rfl _ rfl .u16 _ ((((hN.left k (Nat.le_refl _) hltm).new n1.g).far p3.g (by simp; omega)).new g4) Tryz.sQ16 ?_; intro w5 p5))
      go_roundw
      case rel =>
        have hN4 := ((hN.new n1.g).far p3.g (by simp; omega)).new g4
        have hg4 := grownBy_trans (grown_new (grownBy_trans hg n1.g) p3.g (by omega)) g4
        exact ⟨k + 1, by omega, by go_num, grown_new hg4 p5.g (by omega), hN4.step p5⟩
      case measure => simp [intOf]; omega
    · obtain rfl : k = s0 := by omega
      have b0 : (0 : Int) ≤ (k : Int) := by omega
      have b1 : (k : Int) < (m : Int) := by omega
      have ix := fun W => ixPolys b m cp k hltm W
      have ix2 := fun W => ixPolys16 B m k hltm W
      have hb := (HR.out k hltm).new hg
      have n1 := new_alloc .i64 wr (fun _ => 0) 71
      rw [← Tryz.z24] at n1
      have hNw : B < wr.heap.size := (hN.left k (Nat.le_refl _) hltm).lt
      go_wp2_with (first | (refine wpL_load rfl .i64 71 _ rfl b (256 * k) rfl _ hb ⟨_, Tryz.uP⟩ Tryz.sP ?_) | (refine wpL_store rfl .i64 71 _ _ rfl wr.heap.size 0 rfl _ rfl .i64 _ n1.r Tryz.sP ?_; intro w3 p3) | (refine wpL_load rfl .i64 71 _ rfl wr.heap.size 0 rfl _ p3.r ⟨_, Tryz.uP⟩ Tryz.sP ?_) | (go_at_call 293; refine (HBD.out _).mono ?_; rintro e w4 ⟨rfl, g4⟩) | (refine wpL_store rfl .u16 160 _ _ rfl B (256 * k) rfl _ rfl .u16 _ ((((hN.left k (Nat.le_refl _) hltm).new n1.g).far p3.g (by simp; omega)).new g4) Tryz.sQ16 ?_; intro w5 p5))
      go_ret2
      have hg4 := grownBy_trans (grown_new (grownBy_trans hg n1.g) p3.g (by omega)) g4
      exact ⟨rfl, grown_new hg4 p5.g (by omega)⟩
set_option maxHeartbeats 2000000 in
set_option maxRecDepth 20000 in
theorem calc16_bad (Ls : Nat → Nat → Int) (n : Int) (b m u : Nat) (cap : Array Value) (w : World) (hm : m ≤ 2) (hn : n ≤ 65536) (s0 : Nat) (hs0 : s0 < m)
    (hL : ∀ s, s < s0 → ∀ i, i < 256 → 0 ≤ Ls s i ∧ Ls s i < n) (hr : ∀ s, s < m → PRow .i64 w b (256 * s) (Ls s)) (k0 : Nat) (hk0 : k0 < 256) (hb0 : ∀ i, i < k0 → 0 ≤ Ls s0 i ∧ Ls s0 i < n) (hbad : Ls s0 k0 < 0 ∨ n ≤ Ls s0 k0) :
    Calls Tryz.prog 109 #[.int .i64 n, .func (.func u) #[] cap, .slice (some ⟨b, 0, none⟩) m m] w fun e w' => e = .returned (.tuple #[.agg (polyA .i64 (fun _ => 0)), .iface 138 (.int .i64 5)]) ∧ w.grownBy w' none := by
  have n1 := new_alloc .i64 w (fun _ => 0) 71
  rw [← Tryz.z24] at n1
  have HN : Hid (∀ W, w.grownBy W none → Calls Tryz.prog 198 #[.int .i64 n, .slice (some ⟨b, 0, none⟩) m m] W fun e w' => e = .returned (.tuple #[.slice none 0 0, .iface 138 (.int .i64 5)]) ∧ W.grownBy w' none) := fun W hg => narrowed16_bad Ls n b m m W (by omega) hn s0 hs0 hL (fun s hs => (hr s hs).new hg) k0 hk0 hb0 hbad
  clear hL hr hb0 hbad hk0
  go_enter Tryz.func109, Tryz.ntmps109
  go_wp2_with (first | (go_at_call 198; refine (HN.out _ n1.g).mono ?_; rintro e w2 ⟨rfl, g2⟩; have hg := grownBy_trans n1.g g2; have hA := n1.r.new g2) | (refine wpL_store rfl .i64 71 _ _ rfl w.heap.size 0 rfl (fun _ => 0) (by rw [← Tryz.z24]; rfl) .i64 _ hA Tryz.sP ?_; intro w6 p6))
  refine bodyPost_ret (res2 rfl .i64 _ w6 w.heap.size _ _ rfl rfl p6.r ⟨_, Tryz.uP⟩ Tryz.sP) rfl ⟨rfl, grown_new hg p6.g (by omega)⟩
set_option maxHeartbeats 2000000 in
set_option maxRecDepth 20000 in
theorem narrowed32_bad (Ls : Nat → Nat → Int) (n : Int) (b m cp : Nat) (w : World) (hm : m ≤ 8) (hn : n ≤ 4294967296) (s0 : Nat) (hs0 : s0 < m)
    (hL : ∀ s, s < s0 → ∀ i, i < 256 → 0 ≤ Ls s i ∧ Ls s i < n) (hr : ∀ s, s < m → PRow .i64 w b (256 * s) (Ls s)) (k0 : Nat) (hk0 : k0 < 256) (hb0 : ∀ i, i < k0 → 0 ≤ Ls s0 i ∧ Ls s0 i < n) (hbad : Ls s0 k0 < 0 ∨ n ≤ Ls s0 k0) :
    Calls Tryz.prog 133 #[.int .i64 n, .slice (some ⟨b, 0, none⟩) m cp] w fun e w' => e = .returned (.tuple #[.slice none 0 0, .iface 138 (.int .i64 5)]) ∧ w.grownBy w' none := by
  have HL : Hid (∀ s, s < s0 → ∀ i, i < 256 → 0 ≤ Ls s i ∧ Ls s i < n) := hL
  have HR : Hid (∀ s, s < m → PRow .i64 w b (256 * s) (Ls s)) := hr
  have HBD : Hid (∀ W, Calls Tryz.prog 122 #[.agg (polyA .i64 (Ls s0)), .int .i64 n] W fun e w' => e = .returned (.tuple #[.agg (polyA .u32 (fun _ => 0)), .iface 138 (.int .i64 5)]) ∧ W.grownBy w' none) := fun W => narrow32_bad (Ls s0) n W k0 hk0 hb0 hbad hn
  clear hL hr hb0 hbad hk0
  have hmk := mk32 m hm
  have m2 := made_rows .u32 w m 166
  have g2 := World.grownBy_alloc w (.cells (madeCells (polyA .u32 (fun _ => 0)) (m * 256)) 166) none
  go_enter Tryz.func133, Tryz.ntmps133
  go_wp2
  generalize w.alloc (.cells (madeCells (polyA .u32 (fun _ => 0)) (m * 256)) 166) = w2 at *
  obtain ⟨B, hB⟩ : ∃ B, B = w.heap.size := ⟨_, rfl⟩
  rw [← hB] at m2 ⊢
  have hN : Nar .u32 w2 B m 0 Ls := ⟨fun s hs => absurd hs (by omega), fun s _ hs => m2 s hs⟩
  have hg : w.grownBy w2 none := g2
  clear g2 m2 hmk
  have hB' : w.heap.size ≤ B := by omega
  clear hB
  go_loopw [7, 8, 9, 15] (fun _ _ _ i wr => ∃ k : Nat, k ≤ s0 ∧ i = .int .i64 k ∧ w.grownBy wr none ∧ Nar .u32 wr B m k Ls) (fun _ _ _ i _ => m - (intOf i).toNat)
  case atStart => exact ⟨0, by omega, rfl, hg, hN⟩
  case round =>
    clear hN hg
    obtain ⟨k, hk, rfl, hg, hN⟩ := hrel
    have hltm : k < m := by omega
    by_cases hlt : k < s0
    · have b0 : (0 : Int) ≤ (k : Int) := by omega
      have b1 : (k : Int) < (m : Int) := by omega
      have ix := fun W => ixPolysc b m cp k hltm W
      have ix2 := fun W => ixPolys32 B m k hltm W
      have hb := (HR.out k hltm).new hg
      have n1 := new_alloc .i64 wr (fun _ => 0) 71
      rw [← Tryz.z24] at n1
      have hNw : B < wr.heap.size := (hN.left k (Nat.le_refl _) hltm).lt
      go_wp2_with (first | (refine wpL_load rfl .i64 71 _ rfl b (256 * k) rfl _ hb ⟨_, Tryz.uP⟩ Tryz.sP ?_) | (refine wpL_store rfl .i64 71 _ _ rfl wr.heap.size 0 rfl _ rfl .i64 _ n1.r Tryz.sP ?_; intro w3 p3) | (refine wpL_load rfl .i64 71 _ rfl wr.heap.size 0 rfl _ p3.r ⟨_, Tryz.uP⟩ Tryz.sP ?_) | (go_at_call 122; refine (narrow32_ok (Ls k) n _ (HL.out k hlt) hn).mono ?_; rintro e w4 ⟨rfl, g4⟩) | (refine wpL_store rfl .u32 166 _ _ rfl B (256 * k) rfl _ rfl .u32 _ ((((hN.left k (Nat.le_refl _) hltm).new n1.g).far p3.g (by simp; omega)).new g4) Tryz.sQ32 ?_; intro w5 p5))
      go_roundw
      case rel =>
        have hN4 := ((hN.new n1.g).far p3.g (by simp; omega)).new g4
        have hg4 := grownBy_trans (grown_new (grownBy_trans hg n1.g) p3.g (by omega)) g4
        exact ⟨k + 1, by omega, by go_num, grown_new hg4 p5.g (by omega), hN4.step p5⟩
      case measure => simp [intOf]; omega
    · obtain rfl : k = s0 := by omega
      have b0 : (0 : Int) ≤ (k : Int) := by omega
      have b1 : (k : Int) < (m : Int) := by omega
      have ix := fun W => ixPolysc b m cp k hltm W
      have ix2 := fun W => ixPolys32 B m k hltm W
      have hb := (HR.out k hltm).new hg
      have n1 := new_alloc .i64 wr (fun _ => 0) 71
      rw [← Tryz.z24] at n1
      have hNw : B < wr.heap.size := (hN.left k (Nat.le_refl _) hltm).lt
      go_wp2_with (first | (refine wpL_load rfl .i64 71 _ rfl b (256 * k) rfl _ hb ⟨_, Tryz.uP⟩ Tryz.sP ?_) | (refine wpL_store rfl .i64 71 _ _ rfl wr.heap.size 0 rfl _ rfl .i64 _ n1.r Tryz.sP ?_; intro w3 p3) | (refine wpL_load rfl .i64 71 _ rfl wr.heap.size 0 rfl _ p3.r ⟨_, Tryz.uP⟩ Tryz.sP ?_) | (go_at_call 122; refine (HBD.out _).mono ?_; rintro e w4 ⟨rfl, g4⟩) | (refine wpL_store rfl .u32 166 _ _ rfl B (256 * k) rfl _ rfl .u32 _ ((((hN.left k (Nat.le_refl _) hltm).new n1.g).far p3.g (by simp; omega)).new g4) Tryz.sQ32 ?_; intro w5 p5))
      go_ret2
      have hg4 := grownBy_trans (grown_new (grownBy_trans hg n1.g) p3.g (by omega)) g4
      exact ⟨rfl, grown_new hg4 p5.g (by omega)⟩
set_option maxHeartbeats 2000000 in
set_option maxRecDepth 20000 in
theorem calc32_bad (Ls : Nat → Nat → Int) (n : Int) (b m u : Nat) (cap : Array Value) (w : World) (hm : m ≤ 2) (hn : n ≤ 4294967296) (s0 : Nat) (hs0 : s0 < m)
    (hL : ∀ s, s < s0 → ∀ i, i < 256 → 0 ≤ Ls s i ∧ Ls s i < n) (hr : ∀ s, s < m → PRow .i64 w b (256 * s) (Ls s)) (k0 : Nat) (hk0 : k0 < 256) (hb0 : ∀ i, i < k0 → 0 ≤ Ls s0 i ∧ Ls s0 i < n) (hbad : Ls s0 k0 < 0 ∨ n ≤ Ls s0 k0) :
    Calls Tryz.prog 135 #[.int .i64 n, .func (.func u) #[] cap, .slice (some ⟨b, 0, none⟩) m m] w fun e w' => e = .returned (.tuple #[.agg (polyA .i64 (fun _ => 0)), .iface 138 (.int .i64 5)]) ∧ w.grownBy w' none := by
  have n1 := new_alloc .i64 w (fun _ => 0) 71
  rw [← Tryz.z24] at n1
  have HN : Hid (∀ W, w.grownBy W none → Calls Tryz.prog 133 #[.int .i64 n, .slice (some ⟨b, 0, none⟩) m m] W fun e w' => e = .returned (.tuple #[.slice none 0 0, .iface 138 (.int .i64 5)]) ∧ W.grownBy w' none) := fun W hg => narrowed32_bad Ls n b m m W (by omega) hn s0 hs0 hL (fun s hs => (hr s hs).new hg) k0 hk0 hb0 hbad
  clear hL hr hb0 hbad hk0
  go_enter Tryz.func135, Tryz.ntmps135
  go_wp2_with (first | (go_at_call 133; refine (HN.out _ n1.g).mono ?_; rintro e w2 ⟨rfl, g2⟩; have hg := grownBy_trans n1.g g2; have hA := n1.r.new g2) | (refine wpL_store rfl .i64 71 _ _ rfl w.heap.size 0 rfl (fun _ => 0) (by rw [← Tryz.z24]; rfl) .i64 _ hA Tryz.sP ?_; intro w6 p6))
  refine bodyPost_ret (res2 rfl .i64 _ w6 w.heap.size _ _ rfl rfl p6.r ⟨_, Tryz.uP⟩ Tryz.sP) rfl ⟨rfl, grown_new hg p6.g (by omega)⟩
end Go.Proofs.YtkijpphmiogbbaaGreatDoor
