import Derived.Test.YtikcbdpijjafjaaGreatDoorK25
import Derived.Laws.Tables
import Derived.Test.YtikcbdpijjafjaaGreatDoorK24
namespace Go.Proofs.YtikcbdpijjafjaaGreatDoor
open Go.RowKit
attribute [local go_sem ↓] Go.wp_at_zero Go.wp_at_succ

def ringA16 : Array Value := #[.int .u16 3329, .int .i64 2, .func (.func 259) #[] #[]] ++ polyA .u16 (fun _ => 0) ++ #[.int .u16 0]
def hidBd16 (parts : Array (Nat × Value)) : Sem Value := Instr.build 313 parts
theorem bd_hide16 (parts : Array (Nat × Value)) : Instr.build 313 parts = hidBd16 parts := rfl
theorem run_hidBd16 (W : World) : (hidBd16 #[(0, .int .u16 3329), (1, .int .i64 2), (2, .func (.func 259) #[] #[])]).run Tryz.prog W = .ok (.agg ringA16) W :=
  run_build W 313 _ ringA16 (by kernel_rfl)
attribute [local go_sem ↓] bd_hide16
attribute [local go_sem] run_hidBd16
theorem ringA16_at (i : Nat) (h : i < 256) : ringA16[3 + i]? = some (.int .u16 0) := by
  unfold ringA16
  rw [Array.getElem?_append_left (by simp [polyA_size]; omega), Array.getElem?_append_right (by simp)]
  simp only [List.size_toArray, List.length_cons, List.length_nil]
  rw [show 3 + i - (0 + 1 + 1 + 1) = i by omega]
  exact polyA_at .u16 (fun _ => 0) i h
theorem ringA16_rg (w : World) (T : TypeId) : Rg16 (w.alloc (.cells ringA16 T)) w.heap.size (zTo16 0) 0 := by
  refine ⟨?_, ?_, ?_, fun i hi => ⟨?_, World.frozen?_alloc_at _ _ _ _ rfl⟩, ⟨?_, World.frozen?_alloc_at _ _ _ _ rfl⟩⟩
  · rw [World.cell?_alloc_new]; kernel_rfl
  · rw [World.cell?_alloc_new]; kernel_rfl
  · rw [World.cell?_alloc_new]; kernel_rfl
  · rw [World.cell?_alloc_new, ringA16_at i hi]
    unfold zTo16; rw [if_neg (by omega)]
  · rw [World.cell?_alloc_new]; kernel_rfl
set_option maxHeartbeats 1000000 in
set_option maxRecDepth 20000 in
theorem newRing16_any (w : World) :
    Calls Tryz.prog 258 #[.int .u16 3329, .int .u16 17, .int .i64 2, .func (.func 259) #[] #[]] w fun e w' => e = .returned (.pointer (some ⟨w.heap.size, 0, none⟩)) ∧ w.grownBy w' none ∧ Rg16 w' w.heap.size zetS 3303 := by
  have hR0 := ringA16_rg w 313
  have g0 := World.grownBy_alloc w (.cells ringA16 313) none
  go_enter Tryz.func258, Tryz.ntmps258
  go_wp2_with (first | (go_at_call 324; refine (len_128 _).mono ?_; rintro e w1 ⟨rfl, g1⟩))
  obtain ⟨b, hb⟩ : ∃ b, b = w.heap.size := ⟨_, rfl⟩
  rw [← hb] at hR0 ⊢
  have hR1 := hR0.new g1
  have hg1 := grownBy_trans g0 g1
  have hbw : w.heap.size ≤ b := by omega
  have HB := hid_of hb
  clear hR0 g0 g1 hb
  go_loopw [12, 13, 27] (fun pw _ i wr => ∃ e : Nat, e ≤ 128 ∧ pw = .int .u16 ((17 ^ e % 3329 : Nat) : Int) ∧ i = .int .i64 e ∧ w.grownBy wr none ∧ Rg16 wr b (zTo16 e) 0) (fun _ _ i _ => 128 - (intOf i).toNat)
  case atStart => exact ⟨0, by omega, rfl, rfl, hg1, hR1⟩
  case round =>
    clear hR1 hg1
    obtain ⟨e, he, rfl, rfl, hg, hR⟩ := hrel
    by_cases hlt : e < 128
    · have hrv := (revN16_lt e hlt).1
      have HS := hid_of (zTo16_step e hlt)
      have HPW := hid_of (pw16_step e)
      have hpl : 17 ^ e % 3329 < 3329 := Nat.mod_lt _ (by omega)
      have HRV := hid_of (fun W => reversed_7 e W hlt)
      have eRV : rev8 e / 2 = revN16 e := rfl
      rw [eRV] at HRV
      generalize 17 ^ e % 3329 = p at *
      generalize revN16 e = rv at *
      clear eRV
      have e0 : (0 : Int) ≤ (e : Int) := by omega
      have e1 : (e : Int) < 128 := by omega
      have r0 : (0 : Int) ≤ (rv : Int) := by omega
      have r1 : (rv : Int) < 256 := by omega
      have hrv2 : rv < 256 := by omega
      go_wp2
      go_region_with (first | (go_at_call 325; refine (HRV.out _).mono ?_; rintro _ w2 ⟨rfl, g2⟩; have hR2 := hR.drew.new g2; have cc := (hR2.zetas rv hrv2).1; have ff := (hR2.zetas rv hrv2).2))
      all_goals (
        have hR3 := hR2.zet (i := rv) hrv2 (p : Int)
        have hg3 := grown_setNew (grownBy_trans (grown_drew hg) g2) (p := ⟨b, 3 + rv, none⟩) hbw (.int .u16 (p : Int))
        generalize w2.setCell ⟨b, 3 + rv, none⟩ (.int .u16 (p : Int)) = w3 at *
        clear cc ff hR2 g2
        have HT := hid_of (times16_any b _ _ p 17 w3 hR3 hpl (by omega))
        go_wp2_with (first | (go_at_call 262; refine HT.out.mono ?_; rintro _ w' ⟨rfl, hw⟩; rw [hw]; clear hw w'))
        refine ⟨⟨e + 1, by omega, by rw [← HPW.out]; simp, by go_num, hg3, hR3.ext (fun i _ => HS.out i)⟩, by simp [intOf]; omega⟩)
    · have he2 : e = 128 := by omega
      subst he2
      have hI := hid_of (inverse16_any b _ _ wr hR)
      have cs := hR.scale.1
      have fs := hR.scale.2
      go_wp2_with (first | (go_at_call 326; refine hI.out.mono ?_; rintro _ w' ⟨rfl, hw⟩; rw [hw]; clear hw w'))
      go_ret
      rw [← HB.out]
      exact ⟨rfl, grown_setNew hg hbw _, (hR.sca 3303).ext (fun i _ => zTo16_all i)⟩
set_option maxHeartbeats 400000 in
theorem ring16_any (w : World) :
    Calls Tryz.prog 181 #[] w fun e w' => e = .returned (.pointer (some ⟨w.heap.size, 0, none⟩)) ∧ w.grownBy w' none ∧ Rg16 w' w.heap.size zetS 3303 := by
  go_enter Tryz.func181, Tryz.ntmps181
  go_wp2_with (first | (go_at_call 258; refine (newRing16_any _).mono ?_; rintro e w1 ⟨rfl, g1, hR1⟩))
  go_ret
  exact ⟨rfl, g1, hR1⟩
end Go.Proofs.YtikcbdpijjafjaaGreatDoor

namespace Go.Proofs.YtikcbdpijjafjaaGreatDoor
open Go.RowKit
attribute [local go_sem ↓] Go.wp_at_zero Go.wp_at_succ

theorem zet16_range (i : Nat) : 0 ≤ zetS i ∧ zetS i < 3329 := by
  unfold zetS
  split
  · have := Nat.mod_lt (17 ^ (rev8 i / 2)) (show 0 < 3329 by omega)
    omega
  · omega
def hidSt16 (p v : Value) := Instr.storeAt 160 p v
theorem st_hide16 (p v : Value) : Instr.storeAt 160 p v = hidSt16 p v := rfl
theorem run_hidSt16 (W : World) (b : Nat) (L M : Nat → Int) (hr : PRow .u16 W b 0 M) : (hidSt16 (.pointer (some ⟨b, 0, none⟩)) (.agg (polyA .u16 L))).run Tryz.prog W = .ok () (W.setCells b 0 (polyA .u16 L).toList) :=
  run_storeAt_mid W b 0 160 (polyA .u16 L) (hr.there .u16 L) (by rw [polyA_size]; exact Tryz.sQ16) (polyA_one .u16 L)

set_option maxHeartbeats 1000000 in
set_option maxRecDepth 20000 in
theorem fn16_forward (b n : Nat) (L : Nat → Int) (w : World) (hR : Rg16 w b zetS 3303) (hr : PRow .u16 w n 0 L) (hL : ∀ i, i < 256 → 0 ≤ L i ∧ L i < 3329) :
    Calls Tryz.prog 101 #[.pointer (some ⟨b, 0, none⟩), .slice (some ⟨n, 0, none⟩) 1 1] w fun e w' => e = .returned (.agg (polyA .u16 (fwdN 3329 zetS 7 L))) ∧ w.grownBy w' none := by
  have n1 := new_alloc .u16 w (fun _ => 0) 160
  rw [← Tryz.zQ16] at n1
  have HC := hid_of (fwd16_any b zetS 3303 L (w.alloc (.cells Tryz.zeroCells160 160)) (hR.new n1.g) (fun i _ => zet16_range i) hL)
  go_enter Tryz.func101, Tryz.ntmps101
  go_wp2_with (first | (refine wpL_load rfl .u16 160 _ rfl n 0 rfl _ (hr.new n1.g) Tryz.oQ16 Tryz.sQ16 ?_) | (go_at_call 184; refine HC.out.mono ?_; rintro e w3 ⟨rfl, g3⟩) | (refine wpL_store rfl .u16 160 _ _ rfl w.heap.size 0 rfl _ rfl .u16 _ (n1.r.new g3) Tryz.sQ16 ?_; intro w4 p4))
  refine bodyPost_ret (res1 rfl .u16 _ w4 w.heap.size _ rfl p4.r Tryz.oQ16 Tryz.sQ16) rfl ⟨rfl, grown_new (grownBy_trans n1.g g3) p4.g (Nat.le_refl _)⟩
section
attribute [local go_sem ↓] st_hide16
set_option maxHeartbeats 1000000 in
set_option maxRecDepth 20000 in
theorem modC16_forward (c n : Nat) (L : Nat → Int) (w : World) (hc : w.cell? ⟨c, 0, none⟩ = some (.func (.func 101) #[] #[])) (hr : PRow .u16 w n 0 L) (hL : ∀ i, i < 256 → 0 ≤ L i ∧ L i < 3329) :
    Calls Tryz.prog 180 #[.slice (some ⟨n, 0, none⟩) 1 1, .pointer (some ⟨c, 0, none⟩)] w fun e w' => e = .returned (.agg (polyA .u16 (fwdN 3329 zetS 7 L))) ∧ w.grownBy w' none := by
  have n1 := new_alloc .u16 w (fun _ => 0) 160
  rw [← Tryz.zQ16] at n1
  have hc1 := n1.g.cell hc (by simp)
  have HL := hid_of hL
  go_enter Tryz.func180, Tryz.ntmps180
  go_wp2_with fail
  generalize w.alloc (.cells Tryz.zeroCells160 160) = w1 at *
  have g1 := n1.g
  have r1 := n1.r
  have hr1 := hr.new g1
  clear n1 hc hL
  go_region_with (first | (go_at_call 181; refine (ring16_any _).mono ?_; rintro e w5 ⟨rfl, g5, hR5⟩; have hc5 := g5.cell hc1 (by simp); have hR6 : Rg16 w5 w1.heap.size zetS 3303 := hR5; have hr5 := hr1.drew.new g5; have z5 := r1.drew.new g5; clear hR5) | (go_at_call 101; refine (fn16_forward w1.heap.size n L w5 hR6 hr5 HL.out).mono ?_; rintro e w6 ⟨rfl, g6⟩; have st := run_hidSt16 w6 w.heap.size (fwdN 3329 zetS 7 L) _ (z5.new g6)))
  all_goals (
    have p6 := put_cells .u16 w6 w.heap.size 0 (fwdN 3329 zetS 7 L) ((z5.new g6).there .u16 _)
    have g7 := grown_new (grownBy_trans (grown_drew g1) (grownBy_trans g5 g6)) p6.g (Nat.le_refl _)
    generalize w6.setCells w.heap.size 0 (polyA .u16 (fwdN 3329 zetS 7 L)).toList = w7 at *
    clear st
    go_wp2
    refine bodyPost_ret (res1 rfl .u16 _ w7 w.heap.size _ rfl p6.r Tryz.oQ16 Tryz.sQ16) rfl ⟨rfl, g7⟩)
end

set_option maxHeartbeats 1000000 in
set_option maxRecDepth 20000 in
theorem fn16_inverse (b n : Nat) (L : Nat → Int) (w : World) (hR : Rg16 w b zetS 3303) (hr : PRow .u16 w n 0 L) (hL : ∀ i, i < 256 → 0 ≤ L i ∧ L i < 3329) :
    Calls Tryz.prog 103 #[.pointer (some ⟨b, 0, none⟩), .slice (some ⟨n, 0, none⟩) 1 1] w fun e w' => e = .returned (.agg (polyA .u16 (fun i => invN 3329 zetS 7 L i * 3303 % 3329))) ∧ w.grownBy w' none := by
  have n1 := new_alloc .u16 w (fun _ => 0) 160
  rw [← Tryz.zQ16] at n1
  have HC := hid_of (inv16_any b zetS 3303 L (w.alloc (.cells Tryz.zeroCells160 160)) (hR.new n1.g) (by omega) (fun i _ => zet16_range i) hL)
  go_enter Tryz.func103, Tryz.ntmps103
  go_wp2_with (first | (refine wpL_load rfl .u16 160 _ rfl n 0 rfl _ (hr.new n1.g) Tryz.oQ16 Tryz.sQ16 ?_) | (go_at_call 186; refine HC.out.mono ?_; rintro e w3 ⟨rfl, g3⟩) | (refine wpL_store rfl .u16 160 _ _ rfl w.heap.size 0 rfl _ rfl .u16 _ (n1.r.new g3) Tryz.sQ16 ?_; intro w4 p4))
  refine bodyPost_ret (res1 rfl .u16 _ w4 w.heap.size _ rfl p4.r Tryz.oQ16 Tryz.sQ16) rfl ⟨rfl, grown_new (grownBy_trans n1.g g3) p4.g (Nat.le_refl _)⟩
section
attribute [local go_sem ↓] st_hide16
set_option maxHeartbeats 1000000 in
set_option maxRecDepth 20000 in
theorem modC16_inverse (c n : Nat) (L : Nat → Int) (w : World) (hc : w.cell? ⟨c, 0, none⟩ = some (.func (.func 103) #[] #[])) (hr : PRow .u16 w n 0 L) (hL : ∀ i, i < 256 → 0 ≤ L i ∧ L i < 3329) :
    Calls Tryz.prog 180 #[.slice (some ⟨n, 0, none⟩) 1 1, .pointer (some ⟨c, 0, none⟩)] w fun e w' => e = .returned (.agg (polyA .u16 (fun i => invN 3329 zetS 7 L i * 3303 % 3329))) ∧ w.grownBy w' none := by
  have n1 := new_alloc .u16 w (fun _ => 0) 160
  rw [← Tryz.zQ16] at n1
  have hc1 := n1.g.cell hc (by simp)
  have HL := hid_of hL
  go_enter Tryz.func180, Tryz.ntmps180
  go_wp2_with fail
  generalize w.alloc (.cells Tryz.zeroCells160 160) = w1 at *
  have g1 := n1.g
  have r1 := n1.r
  have hr1 := hr.new g1
  clear n1 hc hL
  go_region_with (first | (go_at_call 181; refine (ring16_any _).mono ?_; rintro e w5 ⟨rfl, g5, hR5⟩; have hc5 := g5.cell hc1 (by simp); have hR6 : Rg16 w5 w1.heap.size zetS 3303 := hR5; have hr5 := hr1.drew.new g5; have z5 := r1.drew.new g5; clear hR5) | (go_at_call 103; refine (fn16_inverse w1.heap.size n L w5 hR6 hr5 HL.out).mono ?_; rintro e w6 ⟨rfl, g6⟩; have st := run_hidSt16 w6 w.heap.size (fun i => invN 3329 zetS 7 L i * 3303 % 3329) _ (z5.new g6)))
  all_goals (
    have p6 := put_cells .u16 w6 w.heap.size 0 (fun i => invN 3329 zetS 7 L i * 3303 % 3329) ((z5.new g6).there .u16 _)
    have g7 := grown_new (grownBy_trans (grown_drew g1) (grownBy_trans g5 g6)) p6.g (Nat.le_refl _)
    generalize w6.setCells w.heap.size 0 (polyA .u16 (fun i => invN 3329 zetS 7 L i * 3303 % 3329)).toList = w7 at *
    clear st
    go_wp2
    refine bodyPost_ret (res1 rfl .u16 _ w7 w.heap.size _ rfl p6.r Tryz.oQ16 Tryz.sQ16) rfl ⟨rfl, g7⟩)
end
end Go.Proofs.YtikcbdpijjafjaaGreatDoor
