import Derived.Test.YtkijpphmiogbbaaR3x
import Derived.Test.YtkijpphmiogbbaaR6x
namespace Go.Proofs.Ytkijpphmiogbbaa
open Go.RowKit
attribute [local go_sem ↓] Go.wp_at_zero Go.wp_at_succ

theorem zet16_range (i : Nat) : 0 ≤ zetS i ∧ zetS i < 3329 := by
  unfold zetS
  split
  · have := Nat.mod_lt (17 ^ (rev8 i / 2)) (show 0 < 3329 by omega)
    omega
  · omega
def hidSt16 (p v : Value) := Instr.storeAt 44 p v
theorem st_hide16 (p v : Value) : Instr.storeAt 44 p v = hidSt16 p v := rfl
theorem run_hidSt16 (W : World) (b : Nat) (L M : Nat → Int) (hr : PRow .u16 W b 0 M) : (hidSt16 (.pointer (some ⟨b, 0, none⟩)) (.agg (polyA .u16 L))).run Try.prog W = .ok () (W.setCells b 0 (polyA .u16 L).toList) :=
  run_storeAt_mid W b 0 44 (polyA .u16 L) (hr.there .u16 L) (by rw [polyA_size]; exact Try.sQ16) (polyA_one .u16 L)

set_option maxHeartbeats 1000000 in
set_option maxRecDepth 20000 in
theorem fn16_forward (b n : Nat) (L : Nat → Int) (w : World) (hR : Rg16 w b zetS 3303) (hr : PRow .u16 w n 0 L) (hL : ∀ i, i < 256 → 0 ≤ L i ∧ L i < 3329) :
    Calls Try.prog 16 #[.pointer (some ⟨b, 0, none⟩), .slice (some ⟨n, 0, none⟩) 1 1] w fun e w' => e = .returned (.agg (polyA .u16 (fwdN 3329 zetS 7 L))) ∧ w.grownBy w' none := by
  have n1 := new_alloc .u16 w (fun _ => 0) 44
  rw [← Try.zQ16] at n1
  have HC := hid_of (fwd16_any b zetS 3303 L (w.alloc (.cells Try.zeroCells44 44)) (hR.new n1.g) (fun i _ => zet16_range i) hL)
  go_enter Try.func16, Try.ntmps16
  go_wp2_with (first | (refine wpL_load rfl .u16 44 _ rfl n 0 rfl _ (hr.new n1.g) Try.oQ16 Try.sQ16 ?_) | (go_at_call 32; refine HC.out.mono ?_; rintro e w3 ⟨rfl, g3⟩) | (refine wpL_store rfl .u16 44 _ _ rfl w.heap.size 0 rfl _ rfl .u16 _ (n1.r.new g3) Try.sQ16 ?_; intro w4 p4))
  refine bodyPost_ret (res1 rfl .u16 _ w4 w.heap.size _ rfl p4.r Try.oQ16 Try.sQ16) rfl ⟨rfl, grown_new (grownBy_trans n1.g g3) p4.g (Nat.le_refl _)⟩
section
attribute [local go_sem ↓] st_hide16
set_option maxHeartbeats 1000000 in
set_option maxRecDepth 20000 in
theorem modC16_forward (c n : Nat) (L : Nat → Int) (w : World) (hc : w.cell? ⟨c, 0, none⟩ = some (.func (.func 16) #[] #[])) (hr : PRow .u16 w n 0 L) (hL : ∀ i, i < 256 → 0 ≤ L i ∧ L i < 3329) :
    Calls Try.prog 27 #[.slice (some ⟨n, 0, none⟩) 1 1, .pointer (some ⟨c, 0, none⟩)] w fun e w' => e = .returned (.agg (polyA .u16 (fwdN 3329 zetS 7 L))) ∧ w.grownBy w' none := by
  have n1 := new_alloc .u16 w (fun _ => 0) 44
  rw [← Try.zQ16] at n1
  have hc1 := n1.g.cell hc (by simp)
  have HL := hid_of hL
  go_enter Try.func27, Try.ntmps27
  go_wp2_with fail
  generalize w.alloc (.cells Try.zeroCells44 44) = w1 at *
  have g1 := n1.g
  have r1 := n1.r
  have hr1 := hr.new g1
  clear n1 hc hL
  go_region_with (first | (go_at_call 28; refine (ring16_any _).mono ?_; rintro e w5 ⟨rfl, g5, hR5⟩; have hc5 := g5.cell hc1 (by simp); have hR6 : Rg16 w5 w1.heap.size zetS 3303 := hR5; have hr5 := hr1.drew.new g5; have z5 := r1.drew.new g5; clear hR5) | (go_at_call 16; refine (fn16_forward w1.heap.size n L w5 hR6 hr5 HL.out).mono ?_; rintro e w6 ⟨rfl, g6⟩; have st := run_hidSt16 w6 w.heap.size (fwdN 3329 zetS 7 L) _ (z5.new g6)))
  all_goals (
    have p6 := put_cells .u16 w6 w.heap.size 0 (fwdN 3329 zetS 7 L) ((z5.new g6).there .u16 _)
    have g7 := grown_new (grownBy_trans (grown_drew g1) (grownBy_trans g5 g6)) p6.g (Nat.le_refl _)
    generalize w6.setCells w.heap.size 0 (polyA .u16 (fwdN 3329 zetS 7 L)).toList = w7 at *
    clear st
    go_wp2
    refine bodyPost_ret (res1 rfl .u16 _ w7 w.heap.size _ rfl p6.r Try.oQ16 Try.sQ16) rfl ⟨rfl, g7⟩)
end

set_option maxHeartbeats 1000000 in
set_option maxRecDepth 20000 in
theorem fn16_inverse (b n : Nat) (L : Nat → Int) (w : World) (hR : Rg16 w b zetS 3303) (hr : PRow .u16 w n 0 L) (hL : ∀ i, i < 256 → 0 ≤ L i ∧ L i < 3329) :
    Calls Try.prog 18 #[.pointer (some ⟨b, 0, none⟩), .slice (some ⟨n, 0, none⟩) 1 1] w fun e w' => e = .returned (.agg (polyA .u16 (fun i => invN 3329 zetS 7 L i * 3303 % 3329))) ∧ w.grownBy w' none := by
  have n1 := new_alloc .u16 w (fun _ => 0) 44
  rw [← Try.zQ16] at n1
  have HC := hid_of (inv16_any b zetS 3303 L (w.alloc (.cells Try.zeroCells44 44)) (hR.new n1.g) (by omega) (fun i _ => zet16_range i) hL)
  go_enter Try.func18, Try.ntmps18
  go_wp2_with (first | (refine wpL_load rfl .u16 44 _ rfl n 0 rfl _ (hr.new n1.g) Try.oQ16 Try.sQ16 ?_) | (go_at_call 34; refine HC.out.mono ?_; rintro e w3 ⟨rfl, g3⟩) | (refine wpL_store rfl .u16 44 _ _ rfl w.heap.size 0 rfl _ rfl .u16 _ (n1.r.new g3) Try.sQ16 ?_; intro w4 p4))
  refine bodyPost_ret (res1 rfl .u16 _ w4 w.heap.size _ rfl p4.r Try.oQ16 Try.sQ16) rfl ⟨rfl, grown_new (grownBy_trans n1.g g3) p4.g (Nat.le_refl _)⟩
section
attribute [local go_sem ↓] st_hide16
set_option maxHeartbeats 1000000 in
set_option maxRecDepth 20000 in
theorem modC16_inverse (c n : Nat) (L : Nat → Int) (w : World) (hc : w.cell? ⟨c, 0, none⟩ = some (.func (.func 18) #[] #[])) (hr : PRow .u16 w n 0 L) (hL : ∀ i, i < 256 → 0 ≤ L i ∧ L i < 3329) :
    Calls Try.prog 27 #[.slice (some ⟨n, 0, none⟩) 1 1, .pointer (some ⟨c, 0, none⟩)] w fun e w' => e = .returned (.agg (polyA .u16 (fun i => invN 3329 zetS 7 L i * 3303 % 3329))) ∧ w.grownBy w' none := by
  have n1 := new_alloc .u16 w (fun _ => 0) 44
  rw [← Try.zQ16] at n1
  have hc1 := n1.g.cell hc (by simp)
  have HL := hid_of hL
  go_enter Try.func27, Try.ntmps27
  go_wp2_with fail
  generalize w.alloc (.cells Try.zeroCells44 44) = w1 at *
  have g1 := n1.g
  have r1 := n1.r
  have hr1 := hr.new g1
  clear n1 hc hL
  go_region_with (first | (go_at_call 28; refine (ring16_any _).mono ?_; rintro e w5 ⟨rfl, g5, hR5⟩; have hc5 := g5.cell hc1 (by simp); have hR6 : Rg16 w5 w1.heap.size zetS 3303 := hR5; have hr5 := hr1.drew.new g5; have z5 := r1.drew.new g5; clear hR5) | (go_at_call 18; refine (fn16_inverse w1.heap.size n L w5 hR6 hr5 HL.out).mono ?_; rintro e w6 ⟨rfl, g6⟩; have st := run_hidSt16 w6 w.heap.size (fun i => invN 3329 zetS 7 L i * 3303 % 3329) _ (z5.new g6)))
  all_goals (
    have p6 := put_cells .u16 w6 w.heap.size 0 (fun i => invN 3329 zetS 7 L i * 3303 % 3329) ((z5.new g6).there .u16 _)
    have g7 := grown_new (grownBy_trans (grown_drew g1) (grownBy_trans g5 g6)) p6.g (Nat.le_refl _)
    generalize w6.setCells w.heap.size 0 (polyA .u16 (fun i => invN 3329 zetS 7 L i * 3303 % 3329)).toList = w7 at *
    clear st
    go_wp2
    refine bodyPost_ret (res1 rfl .u16 _ w7 w.heap.size _ rfl p6.r Try.oQ16 Try.sQ16) rfl ⟨rfl, g7⟩)
end
end Go.Proofs.Ytkijpphmiogbbaa
