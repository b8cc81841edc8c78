import Derived.Test.YtkijpphmiogbbaaL3
namespace Go.Proofs.Ytkijpphmiogbbaa
open Go.RowKit
attribute [local go_sem ↓] Go.wp_at_zero Go.wp_at_succ

set_option maxHeartbeats 1000000 in
set_option maxRecDepth 20000 in
theorem each_inverse32 (L M : Nat → Int) (cap : Array Value) (w : World)
    (hM : ∀ i W, i < 256 → w.grownBy W none → Calls Try.prog 57 (#[.int .u32 (L i)] ++ cap) W fun e W' => e = .returned (.int .u32 (M i)) ∧ W.grownBy W' none) :
    Calls Try.prog 56 #[.agg (polyA .u32 L), .func (.func 57) #[] cap] w fun e w' => e = .returned (.agg (polyA .u32 M)) ∧ w.grownBy w' none := by
  have HM : Hid (∀ i W, i < 256 → w.grownBy W none → Calls Try.prog 57 (#[.int .u32 (L i)] ++ cap) W fun e W' => e = .returned (.int .u32 (M i)) ∧ W.grownBy W' none) := hM
  clear hM
  go_enter Try.func56, Try.ntmps56
  have n1 := new_alloc .u32 w L 55
  go_wp2_with (first | (refine wpL_load rfl .u32 55 _ rfl w.heap.size 0 rfl L ((n1.r).new (World.grownBy_alloc _ _ none)) Try.oQ32 Try.sQ32 ?_))
  have n2 := new_alloc .u32 (w.alloc (.cells (polyA .u32 L) 55)) (fun _ => 0) 55
  rw [← Try.zQ32] at n2
  generalize (w.alloc (.cells (polyA .u32 L) 55)).alloc (.cells Try.zeroCells55 55) = w2 at *
  have hR : PRow .u32 w2 w.heap.size 0 L := n1.r.new n2.g
  have hA : PRow .u32 w2 (w.heap.size + 1) 0 (fun _ => 0) := by have := n2.r; rw [n1.s] at this; exact this
  have hg : w.grownBy w2 none := grownBy_trans n1.g n2.g
  clear n1 n2
  obtain ⟨B, hB⟩ : ∃ B, B = w.heap.size := ⟨_, rfl⟩
  rw [← hB] at hA hR ⊢
  have hB' : w.heap.size ≤ B := by omega
  clear hB
  go_loopw [5, 6, 8] (fun _ _ i wr => ∃ k : Nat, k ≤ 256 ∧ i = .int .i64 k ∧ w.grownBy wr none ∧ PRow .u32 wr (B + 1) 0 (fun _ => 0) ∧ PRow .u32 wr B 0 (fun j => if j < k then M j else L j)) (fun _ _ i _ => 256 - (intOf i).toNat)
  case atStart => exact ⟨0, by omega, rfl, hg, hA, hR.ext (fun j _ => by simp)⟩
  case round =>
    clear hA hR hg
    obtain ⟨k, hk, rfl, hg, hA, hR⟩ := hrel
    by_cases hlt : k < 256
    · have b0 : (0 : Int) ≤ (k : Int) := by omega
      have b1 : (k : Int) < 256 := by omega
      have ix := fun W => ix32 L k hlt W
      go_wp2_with (first | (go_at_call 57; refine (HM.out k wr hlt hg).mono ?_; rintro e w5 ⟨rfl, g5⟩; have cc := ((hR.new g5).at0 k hlt).1; have ff := ((hR.new g5).at0 k hlt).2))
      go_roundw
      case rel =>
        refine ⟨k + 1, by omega, by go_num, grown_setNew (grownBy_trans hg (by assumption)) (by simp; omega) _, (hA.new (by assumption)).set_other (by simp) _, ((hR.new (by assumption)).set0 hlt _).ext (fun j _ => mix_step _ _ k j)⟩
      case measure => simp [intOf]; omega
    · have hk6 : k = 256 := by omega
      subst hk6
      have hR' : PRow .u32 wr B 0 M := hR.ext (fun j hj => by simp [hj])
      clear hR
      go_wp2_with (first | (refine wpL_load rfl .u32 55 _ rfl B 0 rfl M hR' Try.oQ32 Try.sQ32 ?_) | (refine wpL_store rfl .u32 55 _ _ rfl (B + 1) 0 rfl M rfl .u32 _ hA Try.sQ32 ?_; intro w4 p4))
      refine bodyPost_ret (res1 rfl .u32 _ w4 (B + 1) M rfl p4.r Try.oQ32 Try.sQ32) rfl ⟨rfl, grown_new hg p4.g (by omega)⟩
end Go.Proofs.Ytkijpphmiogbbaa
