import Derived.Test.YtkijpphmiogbbaaL1
namespace Go.Proofs.Ytkijpphmiogbbaa
open Go.RowKit
attribute [local go_sem ↓] Go.wp_at_zero Go.wp_at_succ

theorem Try.uQ32 : Try.prog.underlying 55 = some (.array 256 39) := by kernel_rfl
theorem Try.oQ32 : ∃ e, Try.prog.underlying 55 = some (.array 256 e) := ⟨_, Try.uQ32⟩
theorem Try.sQ32 : (Try.prog.info? 55).map (·.size) = some 256 := by kernel_rfl
theorem Try.zQ32 : Try.zeroCells55 = polyA .u32 (fun _ => 0) := by kernel_rfl
theorem ix32 (L : Nat → Int) (i : Nat) (hi : i < 256) (W : World) : (Instr.index 55 (.agg (polyA .u32 L)) (.int .i64 (i : Int))).run Try.prog W = .ok (.int .u32 (L i)) W :=
  run_index_poly (e := 39) .u32 L i hi W Try.uQ32 (by kernel_rfl) (by kernel_rfl)

set_option maxHeartbeats 1000000 in
set_option maxRecDepth 20000 in
theorem narrow32_ok (L : Nat → Int) (n : Int) (w : World) (hL : ∀ i, i < 256 → 0 ≤ L i ∧ L i < n) (hn' : n ≤ 4294967296) :
    Calls Try.prog 66 #[.agg (polyA .i64 L), .int .i64 n] w fun e w' => e = .returned (.tuple #[.agg (polyA .u32 L), .nilIface]) ∧ w.grownBy w' none := by
  have HL : Hid (∀ i, i < 256 → 0 ≤ L i ∧ L i < n) := hL
  clear hL
  go_enter Try.func66, Try.ntmps66
  have n1 := new_alloc .i64 w L 24
  go_wp2_with (first | (refine wpL_load rfl .i64 24 _ rfl w.heap.size 0 rfl L (((n1.r).new (World.grownBy_alloc _ _ none)).new (World.grownBy_alloc _ _ none)) ⟨_, Try.uP⟩ Try.sP ?_))
  have n2 := new_alloc .u32 (w.alloc (.cells (polyA .i64 L) 24)) (fun _ => 0) 55
  rw [← Try.zQ32] at n2
  have n3 := new_alloc .u32 ((w.alloc (.cells (polyA .i64 L) 24)).alloc (.cells Try.zeroCells55 55)) (fun _ => 0) 55
  rw [← Try.zQ32] at n3
  generalize ((w.alloc (.cells (polyA .i64 L) 24)).alloc (.cells Try.zeroCells55 55)).alloc (.cells Try.zeroCells55 55) = w3 at *
  generalize (w.alloc (.cells (polyA .i64 L) 24)).alloc (.cells Try.zeroCells55 55) = w2 at *
  have hA : PRow .u32 w3 (w.heap.size + 1) 0 (fun _ => 0) := by have := n2.r.new n3.g; rw [n1.s] at this; exact this
  have hR : PRow .u32 w3 (w.heap.size + 2) 0 (fun _ => 0) := by have := n3.r; rw [n2.s, n1.s] at this; exact this
  have hg : w.grownBy w3 none := grownBy_trans n1.g (grownBy_trans n2.g n3.g)
  clear n1 n2 n3
  obtain ⟨B, hB⟩ : ∃ B, B = w.heap.size := ⟨_, rfl⟩
  rw [← hB] at hA hR ⊢
  have hB' : w.heap.size ≤ B := by omega
  clear hB
  go_loopw [7, 8, 10] (fun _ _ i wr => ∃ k : Nat, k ≤ 256 ∧ i = .int .i64 k ∧ w.grownBy wr none ∧ PRow .u32 wr (B + 1) 0 (fun _ => 0) ∧ PRow .u32 wr (B + 2) 0 (fun j => if j < k then L j else 0)) (fun _ _ i _ => 256 - (intOf i).toNat)
  case atStart => exact ⟨0, by omega, rfl, hg, hA, hR.ext (fun j _ => by simp)⟩
  case round =>
    clear hA hR hg
    obtain ⟨k, hk, rfl, hg, hA, hR⟩ := hrel
    by_cases hlt : k < 256
    · have b0 : (0 : Int) ≤ (k : Int) := by omega
      have b1 : (k : Int) < 256 := by omega
      have l0 := (HL.out k hlt).1
      have l1 := (HL.out k hlt).2
      have l2 : decide (L k < 0) = false := by simp; omega
      have l3 : decide (n ≤ L k) = false := by simp; omega
      have ix := fun W => ixP L k hlt W
      have cv : IntKind.u32.wrap (L k) = L k := by rw [IntKind.wrap_u32]; omega
      have cc := (hR.at0 k hlt).1
      have ff := (hR.at0 k hlt).2
      go_wp2
      go_roundw
      case rel =>
        refine ⟨k + 1, by omega, by go_num, grown_setNew hg (by simp; omega) _, hA.set_other (by simp) _, (hR.set0 hlt _).ext (fun j _ => mix_step _ _ k j)⟩
      case measure => simp [intOf]; omega
    · have hk6 : k = 256 := by omega
      subst hk6
      have hR' : PRow .u32 wr (B + 2) 0 L := hR.ext (fun j hj => by simp [hj])
      clear hR
      go_wp2_with (first | (refine wpL_load rfl .u32 55 _ rfl (B + 2) 0 rfl L hR' Try.oQ32 Try.sQ32 ?_) | (refine wpL_store rfl .u32 55 _ _ rfl (B + 1) 0 rfl L rfl .u32 _ hA Try.sQ32 ?_; intro w4 p4))
      refine bodyPost_ret (res2 rfl .u32 _ w4 (B + 1) L _ rfl rfl p4.r Try.oQ32 Try.sQ32) rfl ⟨rfl, grown_new hg p4.g (by omega)⟩

set_option maxHeartbeats 1000000 in
set_option maxRecDepth 20000 in
theorem wide32_any (L : Nat → Int) (w : World) (hL : ∀ i, i < 256 → 0 ≤ L i ∧ L i < 4294967296) :
    Calls Try.prog 46 #[.agg (polyA .u32 L)] w fun e w' => e = .returned (.agg (polyA .i64 L)) ∧ w.grownBy w' none := by
  have HL : Hid (∀ i, i < 256 → 0 ≤ L i ∧ L i < 4294967296) := hL
  clear hL
  go_enter Try.func46, Try.ntmps46
  have n1 := new_alloc .u32 w L 55
  go_wp2_with (first | (refine wpL_load rfl .u32 55 _ rfl w.heap.size 0 rfl L (((n1.r).new (World.grownBy_alloc _ _ none)).new (World.grownBy_alloc _ _ none)) Try.oQ32 Try.sQ32 ?_))
  have n2 := new_alloc .i64 (w.alloc (.cells (polyA .u32 L) 55)) (fun _ => 0) 24
  rw [← Try.z24] at n2
  have n3 := new_alloc .i64 ((w.alloc (.cells (polyA .u32 L) 55)).alloc (.cells Try.zeroCells24 24)) (fun _ => 0) 24
  rw [← Try.z24] at n3
  generalize ((w.alloc (.cells (polyA .u32 L) 55)).alloc (.cells Try.zeroCells24 24)).alloc (.cells Try.zeroCells24 24) = w3 at *
  generalize (w.alloc (.cells (polyA .u32 L) 55)).alloc (.cells Try.zeroCells24 24) = w2 at *
  have hA : PRow .i64 w3 (w.heap.size + 1) 0 (fun _ => 0) := by have := n2.r.new n3.g; rw [n1.s] at this; exact this
  have hR : PRow .i64 w3 (w.heap.size + 2) 0 (fun _ => 0) := by have := n3.r; rw [n2.s, n1.s] at this; exact this
  have hg : w.grownBy w3 none := grownBy_trans n1.g (grownBy_trans n2.g n3.g)
  clear n1 n2 n3
  obtain ⟨B, hB⟩ : ∃ B, B = w.heap.size := ⟨_, rfl⟩
  rw [← hB] at hA hR ⊢
  have hB' : w.heap.size ≤ B := by omega
  clear hB
  go_loopw [4, 5, 7] (fun _ _ i wr => ∃ k : Nat, k ≤ 256 ∧ i = .int .i64 k ∧ w.grownBy wr none ∧ PRow .i64 wr (B + 1) 0 (fun _ => 0) ∧ PRow .i64 wr (B + 2) 0 (fun j => if j < k then L j else 0)) (fun _ _ i _ => 256 - (intOf i).toNat)
  case atStart => exact ⟨0, by omega, rfl, hg, hA, hR.ext (fun j _ => by simp)⟩
  case round =>
    clear hA hR hg
    obtain ⟨k, hk, rfl, hg, hA, hR⟩ := hrel
    by_cases hlt : k < 256
    · have b0 : (0 : Int) ≤ (k : Int) := by omega
      have b1 : (k : Int) < 256 := by omega
      have l0 := (HL.out k hlt).1
      have l1 := (HL.out k hlt).2
      have ix := fun W => ix32 L k hlt W
      have cv : IntKind.i64.wrap (L k) = L k := by rw [IntKind.wrap_i64] <;> omega
      have cc := (hR.at0 k hlt).1
      have ff := (hR.at0 k hlt).2
      go_wp2
      go_roundw
      case rel =>
        refine ⟨k + 1, by omega, by go_num, grown_setNew hg (by simp; omega) _, hA.set_other (by simp) _, (hR.set0 hlt _).ext (fun j _ => mix_step _ _ k j)⟩
      case measure => simp [intOf]; omega
    · have hk6 : k = 256 := by omega
      subst hk6
      have hR' : PRow .i64 wr (B + 2) 0 L := hR.ext (fun j hj => by simp [hj])
      clear hR
      go_wp2_with (first | (refine wpL_load rfl .i64 24 _ rfl (B + 2) 0 rfl L hR' ⟨_, Try.uP⟩ Try.sP ?_) | (refine wpL_store rfl .i64 24 _ _ rfl (B + 1) 0 rfl L rfl .i64 _ hA Try.sP ?_; intro w4 p4))
      refine bodyPost_ret (res1 rfl .i64 _ w4 (B + 1) L rfl p4.r ⟨_, Try.uP⟩ Try.sP) rfl ⟨rfl, grown_new hg p4.g (by omega)⟩
end Go.Proofs.Ytkijpphmiogbbaa
