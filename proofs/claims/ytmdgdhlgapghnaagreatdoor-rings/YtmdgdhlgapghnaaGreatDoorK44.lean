import Derived.Test.YtmdgdhlgapghnaaGreatDoorK27
import Derived.Test.YtmdgdhlgapghnaaGreatDoorK25
import Derived.Test.YtmdgdhlgapghnaaGreatDoorK43
namespace Go.Proofs.YtmdgdhlgapghnaaGreatDoor
open Go.RowKit
attribute [local go_sem ↓] Go.wp_at_zero Go.wp_at_succ

def hidN16 (p v : Value) := Instr.storeAt 160 p v
theorem hideN16 (p v : Value) : Instr.storeAt 160 p v = hidN16 p v := rfl
theorem run_hidN16 (W : World) (b : Nat) (L M : Nat → Int) (hr : PRow .u16 W b 0 M) : (hidN16 (.pointer (some ⟨b, 0, none⟩)) (.agg (polyA .u16 L))).run Tryz.prog W = .ok () (W.setCells b 0 (polyA .u16 L).toList) :=
  run_storeAt_mid W b 0 160 (polyA .u16 L) (hr.there .u16 L) (by rw [polyA_size]; exact Tryz.sQ16) (polyA_one .u16 L)
section
attribute [local go_sem ↓] hideN16
set_option maxHeartbeats 1000000 in
set_option maxRecDepth 20000 in
theorem narrow16_bad (L : Nat → Int) (n : Int) (w : World) (k0 : Nat) (hk0 : k0 < 256) (hL : ∀ i, i < k0 → 0 ≤ L i ∧ L i < n) (hbad : L k0 < 0 ∨ n ≤ L k0) (hn' : n ≤ 65536) :
    Calls Tryz.prog 255 #[.agg (polyA .i64 L), .int .i64 n] w fun e w' => e = .returned (.tuple #[.agg (polyA .u16 (fun _ => 0)), .iface 138 (.int .i64 5)]) ∧ w.grownBy w' none := by
  have HL : Hid (∀ i, i < k0 → 0 ≤ L i ∧ L i < n) := hL
  clear hL
  go_enter Tryz.func255, Tryz.ntmps255
  have n1 := new_alloc .i64 w L 71
  go_wp2_with (first | (refine wpL_load rfl .i64 71 _ rfl w.heap.size 0 rfl L (((n1.r).new (World.grownBy_alloc _ _ none)).new (World.grownBy_alloc _ _ none)) ⟨_, Tryz.uP⟩ Tryz.sP ?_))
  have n2 := new_alloc .u16 (w.alloc (.cells (polyA .i64 L) 71)) (fun _ => 0) 160
  rw [← Tryz.zQ16] at n2
  have n3 := new_alloc .u16 ((w.alloc (.cells (polyA .i64 L) 71)).alloc (.cells Tryz.zeroCells160 160)) (fun _ => 0) 160
  rw [← Tryz.zQ16] at n3
  generalize ((w.alloc (.cells (polyA .i64 L) 71)).alloc (.cells Tryz.zeroCells160 160)).alloc (.cells Tryz.zeroCells160 160) = w3 at *
  generalize (w.alloc (.cells (polyA .i64 L) 71)).alloc (.cells Tryz.zeroCells160 160) = w2 at *
  have hA : PRow .u16 w3 (w.heap.size + 1) 0 (fun _ => 0) := by have := n2.r.new n3.g; rw [n1.s] at this; exact this
  have hR : PRow .u16 w3 (w.heap.size + 2) 0 (fun _ => 0) := by have := n3.r; rw [n2.s, n1.s] at this; exact this
  have hg : w.grownBy w3 none := grownBy_trans n1.g (grownBy_trans n2.g n3.g)
  clear n1 n2 n3
  obtain ⟨B, hB⟩ : ∃ B, B = w.heap.size := ⟨_, rfl⟩
  rw [← hB] at hA hR ⊢
  have hB' : w.heap.size ≤ B := by omega
  clear hB
  go_loopw [7, 8, 10] (fun _ _ i wr => ∃ k : Nat, k ≤ k0 ∧ i = .int .i64 k ∧ w.grownBy wr none ∧ PRow .u16 wr (B + 1) 0 (fun _ => 0) ∧ PRow .u16 wr (B + 2) 0 (fun j => if j < k then L j else 0)) (fun _ _ i _ => 256 - (intOf i).toNat)
  case atStart => exact ⟨0, by omega, rfl, hg, hA, hR.ext (fun j _ => by simp)⟩
  case round =>
    clear hA hR hg
    obtain ⟨k, hk, rfl, hg, hA, hR⟩ := hrel
    by_cases hlt : k < k0
    · have b0 : (0 : Int) ≤ (k : Int) := by omega
      have b1 : (k : Int) < 256 := by omega
      have h256 : k < 256 := by omega
      have l0 := (HL.out k hlt).1
      have l1 := (HL.out k hlt).2
      have l2 : decide (L k < 0) = false := by simp; omega
      have l3 : decide (n ≤ L k) = false := by simp; omega
      have ix := fun W => ixP L k h256 W
      have cv : IntKind.u16.wrap (L k) = L k := by rw [IntKind.wrap_u16]; omega
      have cc := (hR.at0 k h256).1
      have ff := (hR.at0 k h256).2
      go_wp2
      go_roundw
      case rel =>
        refine ⟨k + 1, by omega, by go_num, grown_setNew hg (by simp; omega) _, hA.set_other (by simp) _, (hR.set0 h256 _).ext (fun j _ => mix_step _ _ k j)⟩
      case measure => simp [intOf]; omega
    · have hk6 : k = k0 := by omega
      subst hk6
      have b0 : (0 : Int) ≤ (k : Int) := by omega
      have b1 : (k : Int) < 256 := by omega
      have ix := fun W => ixP L k hk0 W
      have st := run_hidN16 wr (B + 1) (fun _ => 0) _ hA
      have p4 := put_cells .u16 wr (B + 1) 0 (fun _ => 0) (hA.there .u16 _)
      rw [← Tryz.zQ16] at st p4
      rcases hbad with hb | hb
      · have l2 : decide (L k < 0) = true := by simpa using hb
        clear hR
        go_wp2
        refine bodyPost_ret (res2 rfl .u16 _ _ (B + 1) _ _ rfl rfl p4.r Tryz.oQ16 Tryz.sQ16) rfl ⟨rfl, grown_new hg p4.g (by omega)⟩
      · by_cases hb2 : L k < 0
        · have l2 : decide (L k < 0) = true := by simpa using hb2
          clear hR
          go_wp2
          refine bodyPost_ret (res2 rfl .u16 _ _ (B + 1) _ _ rfl rfl p4.r Tryz.oQ16 Tryz.sQ16) rfl ⟨rfl, grown_new hg p4.g (by omega)⟩
        · have l2 : decide (L k < 0) = false := by simpa using hb2
          have l3 : decide (n ≤ L k) = true := by simpa using hb
          clear hR
          go_wp2
          refine bodyPost_ret (res2 rfl .u16 _ _ (B + 1) _ _ rfl rfl p4.r Tryz.oQ16 Tryz.sQ16) rfl ⟨rfl, grown_new hg p4.g (by omega)⟩
end
def hidN32 (p v : Value) := Instr.storeAt 166 p v
theorem hideN32 (p v : Value) : Instr.storeAt 166 p v = hidN32 p v := rfl
theorem run_hidN32 (W : World) (b : Nat) (L M : Nat → Int) (hr : PRow .u32 W b 0 M) : (hidN32 (.pointer (some ⟨b, 0, none⟩)) (.agg (polyA .u32 L))).run Tryz.prog W = .ok () (W.setCells b 0 (polyA .u32 L).toList) :=
  run_storeAt_mid W b 0 166 (polyA .u32 L) (hr.there .u32 L) (by rw [polyA_size]; exact Tryz.sQ32) (polyA_one .u32 L)
section
attribute [local go_sem ↓] hideN32
set_option maxHeartbeats 1000000 in
set_option maxRecDepth 20000 in
theorem narrow32_bad (L : Nat → Int) (n : Int) (w : World) (k0 : Nat) (hk0 : k0 < 256) (hL : ∀ i, i < k0 → 0 ≤ L i ∧ L i < n) (hbad : L k0 < 0 ∨ n ≤ L k0) (hn' : n ≤ 4294967296) :
    Calls Tryz.prog 119 #[.agg (polyA .i64 L), .int .i64 n] w fun e w' => e = .returned (.tuple #[.agg (polyA .u32 (fun _ => 0)), .iface 138 (.int .i64 5)]) ∧ w.grownBy w' none := by
  have HL : Hid (∀ i, i < k0 → 0 ≤ L i ∧ L i < n) := hL
  clear hL
  go_enter Tryz.func119, Tryz.ntmps119
  have n1 := new_alloc .i64 w L 71
  go_wp2_with (first | (refine wpL_load rfl .i64 71 _ rfl w.heap.size 0 rfl L (((n1.r).new (World.grownBy_alloc _ _ none)).new (World.grownBy_alloc _ _ none)) ⟨_, Tryz.uP⟩ Tryz.sP ?_))
  have n2 := new_alloc .u32 (w.alloc (.cells (polyA .i64 L) 71)) (fun _ => 0) 166
  rw [← Tryz.zQ32] at n2
  have n3 := new_alloc .u32 ((w.alloc (.cells (polyA .i64 L) 71)).alloc (.cells Tryz.zeroCells166 166)) (fun _ => 0) 166
  rw [← Tryz.zQ32] at n3
  generalize ((w.alloc (.cells (polyA .i64 L) 71)).alloc (.cells Tryz.zeroCells166 166)).alloc (.cells Tryz.zeroCells166 166) = w3 at *
  generalize (w.alloc (.cells (polyA .i64 L) 71)).alloc (.cells Tryz.zeroCells166 166) = w2 at *
  have hA : PRow .u32 w3 (w.heap.size + 1) 0 (fun _ => 0) := by have := n2.r.new n3.g; rw [n1.s] at this; exact this
  have hR : PRow .u32 w3 (w.heap.size + 2) 0 (fun _ => 0) := by have := n3.r; rw [n2.s, n1.s] at this; exact this
  have hg : w.grownBy w3 none := grownBy_trans n1.g (grownBy_trans n2.g n3.g)
  clear n1 n2 n3
  obtain ⟨B, hB⟩ : ∃ B, B = w.heap.size := ⟨_, rfl⟩
  rw [← hB] at hA hR ⊢
  have hB' : w.heap.size ≤ B := by omega
  clear hB
  go_loopw [7, 8, 10] (fun _ _ i wr => ∃ k : Nat, k ≤ k0 ∧ i = .int .i64 k ∧ w.grownBy wr none ∧ PRow .u32 wr (B + 1) 0 (fun _ => 0) ∧ PRow .u32 wr (B + 2) 0 (fun j => if j < k then L j else 0)) (fun _ _ i _ => 256 - (intOf i).toNat)
  case atStart => exact ⟨0, by omega, rfl, hg, hA, hR.ext (fun j _ => by simp)⟩
  case round =>
    clear hA hR hg
    obtain ⟨k, hk, rfl, hg, hA, hR⟩ := hrel
    by_cases hlt : k < k0
    · have b0 : (0 : Int) ≤ (k : Int) := by omega
      have b1 : (k : Int) < 256 := by omega
      have h256 : k < 256 := by omega
      have l0 := (HL.out k hlt).1
      have l1 := (HL.out k hlt).2
      have l2 : decide (L k < 0) = false := by simp; omega
      have l3 : decide (n ≤ L k) = false := by simp; omega
      have ix := fun W => ixP L k h256 W
      have cv : IntKind.u32.wrap (L k) = L k := by rw [IntKind.wrap_u32]; omega
      have cc := (hR.at0 k h256).1
      have ff := (hR.at0 k h256).2
      go_wp2
      go_roundw
      case rel =>
        refine ⟨k + 1, by omega, by go_num, grown_setNew hg (by simp; omega) _, hA.set_other (by simp) _, (hR.set0 h256 _).ext (fun j _ => mix_step _ _ k j)⟩
      case measure => simp [intOf]; omega
    · have hk6 : k = k0 := by omega
      subst hk6
      have b0 : (0 : Int) ≤ (k : Int) := by omega
      have b1 : (k : Int) < 256 := by omega
      have ix := fun W => ixP L k hk0 W
      have st := run_hidN32 wr (B + 1) (fun _ => 0) _ hA
      have p4 := put_cells .u32 wr (B + 1) 0 (fun _ => 0) (hA.there .u32 _)
      rw [← Tryz.zQ32] at st p4
      rcases hbad with hb | hb
      · have l2 : decide (L k < 0) = true := by simpa using hb
        clear hR
        go_wp2
        refine bodyPost_ret (res2 rfl .u32 _ _ (B + 1) _ _ rfl rfl p4.r Tryz.oQ32 Tryz.sQ32) rfl ⟨rfl, grown_new hg p4.g (by omega)⟩
      · by_cases hb2 : L k < 0
        · have l2 : decide (L k < 0) = true := by simpa using hb2
          clear hR
          go_wp2
          refine bodyPost_ret (res2 rfl .u32 _ _ (B + 1) _ _ rfl rfl p4.r Tryz.oQ32 Tryz.sQ32) rfl ⟨rfl, grown_new hg p4.g (by omega)⟩
        · have l2 : decide (L k < 0) = false := by simpa using hb2
          have l3 : decide (n ≤ L k) = true := by simpa using hb
          clear hR
          go_wp2
          refine bodyPost_ret (res2 rfl .u32 _ _ (B + 1) _ _ rfl rfl p4.r Tryz.oQ32 Tryz.sQ32) rfl ⟨rfl, grown_new hg p4.g (by omega)⟩
end
end Go.Proofs.YtmdgdhlgapghnaaGreatDoor

namespace Go.Proofs.YtmdgdhlgapghnaaGreatDoor
open Go.RowKit
attribute [local go_sem ↓] Go.wp_at_zero Go.wp_at_succ
set_option maxHeartbeats 1000000 in
set_option maxRecDepth 20000 in
/-- A text of another length. -/
theorem unpack_len (s : ByteArray) (d : Nat) (w : World) (hd0 : 1 ≤ d) (hd1 : d ≤ 23) (hs : ¬ s.size = 32 * d) (_hs2 : s.size ≤ 1000000) :
    Calls Tryz.prog 59 #[.int .i64 d, .string s] w fun e w' => e = .returned (.tuple #[.agg (polyA .i64 (fun _ => 0)), .iface 138 (.int .i64 2)]) ∧ w.grownBy w' none := by
  have n1 := new_alloc .i64 w (fun _ => 0) 71
  rw [← Tryz.z24] at n1
  have g1 := n1.g
  have r1 := n1.r
  have d0 : decide ((d : Int) < 1) = false := by simp; omega
  have d1 : decide ((23 : Int) < (d : Int)) = false := by simp; omega
  have HP := hid_mkP (fun W => packedBytes_any d W hd1)
  have e1 : ((s.size : Int) != 32 * (d : Int)) = true := by simp; omega
  go_enter Tryz.func59, Tryz.ntmps59
  go_wp2_with (first | (go_at_call 121; refine (HP.out _).mono ?_; rintro e w5 ⟨rfl, rfl⟩) | (refine wpL_store rfl .i64 71 _ _ rfl w.heap.size 0 rfl (fun _ => 0) (by rw [← Tryz.z24]; rfl) .i64 _ r1 Tryz.sP ?_; intro w6 p6))
  refine bodyPost_ret (res2 rfl .i64 _ w6 w.heap.size _ _ rfl rfl p6.r ⟨_, Tryz.uP⟩ Tryz.sP) rfl ⟨rfl, grown_new g1 p6.g (Nat.le_refl _)⟩
attribute [local go_sem ↓] ld_hide st_hide
set_option maxHeartbeats 1000000 in
set_option maxRecDepth 20000 in
theorem pack_bad (L : Nat → Int) (d : Nat) (w : World) (hd0 : 1 ≤ d) (hd1 : d ≤ 23) (k0 : Nat) (hk0 : k0 < 256) (hL : ∀ i, i < k0 → 0 ≤ L i ∧ L i < 2 ^ d) (hbad : L k0 < 0 ∨ 2 ^ d ≤ L k0) :
    Calls Tryz.prog 57 #[.int .i64 d, .agg (polyA .i64 L)] w fun e w' => e = .returned (.tuple #[.string ByteArray.empty, .iface 138 (.int .i64 5)]) ∧ w.grownBy w' none := by
  have n1 := new_alloc .i64 w L 71
  have d0 : decide ((d : Int) < 1) = false := by simp; omega
  have d1 : decide ((23 : Int) < (d : Int)) = false := by simp; omega
  have hX : IntKind.i64.wrap (2 ^ d) = ((2 ^ d : Nat) : Int) := by
    have hp : (2 : Nat) ^ d ≤ 2 ^ 23 := Nat.pow_le_pow_right (n := 2) (by omega) hd1
    have e : (2 : Int) ^ d = ((2 ^ d : Nat) : Int) := by simp
    rw [e]; generalize (2 : Nat) ^ d = q at *
    rw [IntKind.wrap_i64] <;> omega
  have hX2 : IntKind.i64.wrap (2 ^ d) = (2 : Int) ^ d := by rw [hX]; simp
  have hle : IntKind.i64.wrap (2 ^ d) ≤ 4294967296 := by
    have hp : (2 : Nat) ^ d ≤ 2 ^ 23 := Nat.pow_le_pow_right (n := 2) (by omega) hd1
    rw [hX]; omega
  have HC := hid_mkP (fun W => narrow32_bad L (IntKind.i64.wrap (2 ^ d)) W k0 hk0 (fun i hi => by rw [hX2]; exact hL i hi) (by rw [hX2]; exact hbad) hle)
  clear hX hX2 hle hL hbad
  go_enter Tryz.func57, Tryz.ntmps57
  go_wp2_with fail
  generalize w.alloc (.cells (polyA .i64 L) 71) = w1 at *
  have n2 := new_alloc .u32 w1 (fun _ => 0) 166
  rw [← Tryz.zQ32] at n2
  have s1 := n1.s
  have r2 := n2.r.drew
  rw [s1] at r2
  have L1 := run_hidLd w1.drew w.heap.size _ n1.r.drew
  have L2 := run_hidLd (w1.alloc (.cells Tryz.zeroCells166 166)).drew w.heap.size _ (n1.r.new n2.g).drew
  go_region_with (first | (go_at_call 119; refine (HC.out _).mono ?_; rintro e w5 ⟨rfl, g5⟩; have n5 := new_alloc .u32 w5 (fun _ => 0) 166; rw [← Tryz.zQ32] at n5; have stA := run_hidSt (w5.alloc (.cells Tryz.zeroCells166 166)) w5.heap.size (fun _ => (0 : Int)) _ n5.r; try (have g5b : (w1.alloc (.cells Tryz.zeroCells166 166)).drew.grownBy w5 none := (by with_reducible assumption); have stB := run_hidSt w5 (w.heap.size + 1) (fun _ => (0 : Int)) _ (r2.new g5b))))
  all_goals first
    | ( have e6 := stB
        have p6 := put_cells .u32 w5 (w.heap.size + 1) 0 (fun _ => (0 : Int)) ((r2.new g5b).there .u32 _)
        have g6 := grown_new (grownBy_trans n1.g (grownBy_trans (grown_drew n2.g) g5b)) p6.g (Nat.le_succ _)
        generalize w5.setCells (w.heap.size + 1) 0 (polyA .u32 (fun _ => (0 : Int))).toList = w6 at *
        clear e6 stB
        clear L1 L2 stA
        go_wp2
        go_ret2
        exact ⟨rfl, g6⟩)
    | ( have p6 := put_cells .u32 (w5.alloc (.cells Tryz.zeroCells166 166)) w5.heap.size 0 (fun _ => (0 : Int)) (n5.r.there .u32 _)
        have g6 := grown_new (grownBy_trans n1.g (grownBy_trans (grown_drew (World.grownBy.refl _ _)) (grownBy_trans g5 n5.g))) p6.g (Nat.le_trans n1.g.size g5.size)
        generalize (w5.alloc (.cells Tryz.zeroCells166 166)).setCells w5.heap.size 0 (polyA .u32 (fun _ => (0 : Int))).toList = w6 at *
        clear L1 L2 stA
        go_wp2
        go_ret2
        exact ⟨rfl, g6⟩)
end Go.Proofs.YtmdgdhlgapghnaaGreatDoor
