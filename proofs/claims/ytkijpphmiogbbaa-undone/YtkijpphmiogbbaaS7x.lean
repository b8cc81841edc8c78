import Derived.Test.YtkijpphmiogbbaaS3x
import Derived.Test.YtkijpphmiogbbaaS6x
namespace Go.Proofs.Ytkijpphmiogbbaa
open Go.RowKit
attribute [local go_sem ↓] Go.wp_at_zero Go.wp_at_succ

theorem zet32_range (i : Nat) : 0 ≤ zetG i ∧ zetG i < 8380417 := by
  unfold zetG
  split
  · have := Nat.mod_lt (1753 ^ (rev8 i)) (show 0 < 8380417 by omega)
    omega
  · omega
def hidSt32 (p v : Value) := Instr.storeAt 55 p v
theorem st_hide32 (p v : Value) : Instr.storeAt 55 p v = hidSt32 p v := rfl
theorem run_hidSt32 (W : World) (b : Nat) (L M : Nat → Int) (hr : PRow .u32 W b 0 M) : (hidSt32 (.pointer (some ⟨b, 0, none⟩)) (.agg (polyA .u32 L))).run Try.prog W = .ok () (W.setCells b 0 (polyA .u32 L).toList) :=
  run_storeAt_mid W b 0 55 (polyA .u32 L) (hr.there .u32 L) (by rw [polyA_size]; exact Try.sQ32) (polyA_one .u32 L)

set_option maxHeartbeats 1000000 in
set_option maxRecDepth 20000 in
theorem fn32_forward (b n : Nat) (L : Nat → Int) (w : World) (hR : Rg32 w b zetG 8347681) (hr : PRow .u32 w n 0 L) (hL : ∀ i, i < 256 → 0 ≤ L i ∧ L i < 8380417) :
    Calls Try.prog 17 #[.pointer (some ⟨b, 0, none⟩), .slice (some ⟨n, 0, none⟩) 1 1] w fun e w' => e = .returned (.agg (polyA .u32 (fwdN 8380417 zetG 8 L))) ∧ w.grownBy w' none := by
  have n1 := new_alloc .u32 w (fun _ => 0) 55
  rw [← Try.zQ32] at n1
  have HC := hid_of32 (fwd32_any b zetG 8347681 L (w.alloc (.cells Try.zeroCells55 55)) (hR.new n1.g) (fun i _ => zet32_range i) hL)
  go_enter Try.func17, Try.ntmps17
  go_wp2_with (first | (refine wpL_load rfl .u32 55 _ rfl n 0 rfl _ (hr.new n1.g) Try.oQ32 Try.sQ32 ?_) | (go_at_call 33; refine HC.out.mono ?_; rintro e w3 ⟨rfl, g3⟩) | (refine wpL_store rfl .u32 55 _ _ rfl w.heap.size 0 rfl _ rfl .u32 _ (n1.r.new g3) Try.sQ32 ?_; intro w4 p4))
  refine bodyPost_ret (res1 rfl .u32 _ w4 w.heap.size _ rfl p4.r Try.oQ32 Try.sQ32) rfl ⟨rfl, grown_new (grownBy_trans n1.g g3) p4.g (Nat.le_refl _)⟩
section
attribute [local go_sem ↓] st_hide32
set_option maxHeartbeats 1000000 in
set_option maxRecDepth 20000 in
theorem modC32_forward (c n : Nat) (L : Nat → Int) (w : World) (hc : w.cell? ⟨c, 0, none⟩ = some (.func (.func 17) #[] #[])) (hr : PRow .u32 w n 0 L) (hL : ∀ i, i < 256 → 0 ≤ L i ∧ L i < 8380417) :
    Calls Try.prog 30 #[.slice (some ⟨n, 0, none⟩) 1 1, .pointer (some ⟨c, 0, none⟩)] w fun e w' => e = .returned (.agg (polyA .u32 (fwdN 8380417 zetG 8 L))) ∧ w.grownBy w' none := by
  have n1 := new_alloc .u32 w (fun _ => 0) 55
  rw [← Try.zQ32] at n1
  have hc1 := n1.g.cell hc (by simp)
  have HL := hid_of32 hL
  go_enter Try.func30, Try.ntmps30
  go_wp2_with fail
  generalize w.alloc (.cells Try.zeroCells55 55) = w1 at *
  have g1 := n1.g
  have r1 := n1.r
  have hr1 := hr.new g1
  clear n1 hc hL
  go_region_with (first | (go_at_call 31; refine (ring32_any _).mono ?_; rintro e w5 ⟨rfl, g5, hR5⟩; have hc5 := g5.cell hc1 (by simp); have hR6 : Rg32 w5 w1.heap.size zetG 8347681 := hR5; have hr5 := hr1.drew.new g5; have z5 := r1.drew.new g5; clear hR5) | (go_at_call 17; refine (fn32_forward w1.heap.size n L w5 hR6 hr5 HL.out).mono ?_; rintro e w6 ⟨rfl, g6⟩; have st := run_hidSt32 w6 w.heap.size (fwdN 8380417 zetG 8 L) _ (z5.new g6)))
  all_goals (
    have p6 := put_cells .u32 w6 w.heap.size 0 (fwdN 8380417 zetG 8 L) ((z5.new g6).there .u32 _)
    have g7 := grown_new (grownBy_trans (grown_drew g1) (grownBy_trans g5 g6)) p6.g (Nat.le_refl _)
    generalize w6.setCells w.heap.size 0 (polyA .u32 (fwdN 8380417 zetG 8 L)).toList = w7 at *
    clear st
    go_wp2
    refine bodyPost_ret (res1 rfl .u32 _ w7 w.heap.size _ rfl p6.r Try.oQ32 Try.sQ32) rfl ⟨rfl, g7⟩)
end

set_option maxHeartbeats 1000000 in
set_option maxRecDepth 20000 in
theorem fn32_inverse (b n : Nat) (L : Nat → Int) (w : World) (hR : Rg32 w b zetG 8347681) (hr : PRow .u32 w n 0 L) (hL : ∀ i, i < 256 → 0 ≤ L i ∧ L i < 8380417) :
    Calls Try.prog 19 #[.pointer (some ⟨b, 0, none⟩), .slice (some ⟨n, 0, none⟩) 1 1] w fun e w' => e = .returned (.agg (polyA .u32 (fun i => invN 8380417 zetG 8 L i * 8347681 % 8380417))) ∧ w.grownBy w' none := by
  have n1 := new_alloc .u32 w (fun _ => 0) 55
  rw [← Try.zQ32] at n1
  have HC := hid_of32 (inv32_any b zetG 8347681 L (w.alloc (.cells Try.zeroCells55 55)) (hR.new n1.g) (by omega) (fun i _ => zet32_range i) hL)
  go_enter Try.func19, Try.ntmps19
  go_wp2_with (first | (refine wpL_load rfl .u32 55 _ rfl n 0 rfl _ (hr.new n1.g) Try.oQ32 Try.sQ32 ?_) | (go_at_call 35; refine HC.out.mono ?_; rintro e w3 ⟨rfl, g3⟩) | (refine wpL_store rfl .u32 55 _ _ rfl w.heap.size 0 rfl _ rfl .u32 _ (n1.r.new g3) Try.sQ32 ?_; intro w4 p4))
  refine bodyPost_ret (res1 rfl .u32 _ w4 w.heap.size _ rfl p4.r Try.oQ32 Try.sQ32) rfl ⟨rfl, grown_new (grownBy_trans n1.g g3) p4.g (Nat.le_refl _)⟩
section
attribute [local go_sem ↓] st_hide32
set_option maxHeartbeats 1000000 in
set_option maxRecDepth 20000 in
theorem modC32_inverse (c n : Nat) (L : Nat → Int) (w : World) (hc : w.cell? ⟨c, 0, none⟩ = some (.func (.func 19) #[] #[])) (hr : PRow .u32 w n 0 L) (hL : ∀ i, i < 256 → 0 ≤ L i ∧ L i < 8380417) :
    Calls Try.prog 30 #[.slice (some ⟨n, 0, none⟩) 1 1, .pointer (some ⟨c, 0, none⟩)] w fun e w' => e = .returned (.agg (polyA .u32 (fun i => invN 8380417 zetG 8 L i * 8347681 % 8380417))) ∧ w.grownBy w' none := by
  have n1 := new_alloc .u32 w (fun _ => 0) 55
  rw [← Try.zQ32] at n1
  have hc1 := n1.g.cell hc (by simp)
  have HL := hid_of32 hL
  go_enter Try.func30, Try.ntmps30
  go_wp2_with fail
  generalize w.alloc (.cells Try.zeroCells55 55) = w1 at *
  have g1 := n1.g
  have r1 := n1.r
  have hr1 := hr.new g1
  clear n1 hc hL
  go_region_with (first | (go_at_call 31; refine (ring32_any _).mono ?_; rintro e w5 ⟨rfl, g5, hR5⟩; have hc5 := g5.cell hc1 (by simp); have hR6 : Rg32 w5 w1.heap.size zetG 8347681 := hR5; have hr5 := hr1.drew.new g5; have z5 := r1.drew.new g5; clear hR5) | (go_at_call 19; refine (fn32_inverse w1.heap.size n L w5 hR6 hr5 HL.out).mono ?_; rintro e w6 ⟨rfl, g6⟩; have st := run_hidSt32 w6 w.heap.size (fun i => invN 8380417 zetG 8 L i * 8347681 % 8380417) _ (z5.new g6)))
  all_goals (
    have p6 := put_cells .u32 w6 w.heap.size 0 (fun i => invN 8380417 zetG 8 L i * 8347681 % 8380417) ((z5.new g6).there .u32 _)
    have g7 := grown_new (grownBy_trans (grown_drew g1) (grownBy_trans g5 g6)) p6.g (Nat.le_refl _)
    generalize w6.setCells w.heap.size 0 (polyA .u32 (fun i => invN 8380417 zetG 8 L i * 8347681 % 8380417)).toList = w7 at *
    clear st
    go_wp2
    refine bodyPost_ret (res1 rfl .u32 _ w7 w.heap.size _ rfl p6.r Try.oQ32 Try.sQ32) rfl ⟨rfl, g7⟩)
end
end Go.Proofs.Ytkijpphmiogbbaa
