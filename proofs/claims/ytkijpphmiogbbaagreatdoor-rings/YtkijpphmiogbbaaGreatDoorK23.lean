import Derived.Test.YtkijpphmiogbbaaGreatDoorK22
import Derived.Laws.Tables
import Derived.Test.YtkijpphmiogbbaaGreatDoorK21
import Derived.Test.YtkijpphmiogbbaaGreatDoorK06
namespace Go.Proofs.YtkijpphmiogbbaaGreatDoor
open Go.RowKit
attribute [local go_sem ↓] Go.wp_at_zero Go.wp_at_succ

def ringA16 : Array Value := #[.int .u16 3329, .int .i64 2, .func (.func 277) #[] #[]] ++ polyA .u16 (fun _ => 0) ++ #[.int .u16 0]
def hidBd16 (parts : Array (Nat × Value)) : Sem Value := Instr.build 322 parts
theorem bd_hide16 (parts : Array (Nat × Value)) : Instr.build 322 parts = hidBd16 parts := rfl
theorem run_hidBd16 (W : World) : (hidBd16 #[(0, .int .u16 3329), (1, .int .i64 2), (2, .func (.func 277) #[] #[])]).run Tryz.prog W = .ok (.agg ringA16) W :=
  run_build W 322 _ ringA16 (by kernel_rfl)
attribute [local go_sem ↓] bd_hide16
attribute [local go_sem] run_hidBd16
theorem ringA16_at (i : Nat) (h : i < 256) : ringA16[3 + i]? = some (.int .u16 0) := by
  unfold ringA16
  rw [Array.getElem?_append_left (by simp [polyA_size]; omega), Array.getElem?_append_right (by simp)]
  simp only [List.size_toArray, List.length_cons, List.length_nil]
  rw [show 3 + i - (0 + 1 + 1 + 1) = i by omega]
  exact polyA_at .u16 (fun _ => 0) i h
theorem ringA16_rg (w : World) (T : TypeId) : Rg16 (w.alloc (.cells ringA16 T)) w.heap.size (zTo16 0) 0 := by
  refine ⟨?_, ?_, ?_, fun i hi => ⟨?_, World.frozen?_alloc_at _ _ _ _ rfl⟩, ⟨?_, World.frozen?_alloc_at _ _ _ _ rfl⟩⟩
  · rw [World.cell?_alloc_new]; kernel_rfl
  · rw [World.cell?_alloc_new]; kernel_rfl
  · rw [World.cell?_alloc_new]; kernel_rfl
  · rw [World.cell?_alloc_new, ringA16_at i hi]
    unfold zTo16; rw [if_neg (by omega)]
  · rw [World.cell?_alloc_new]; kernel_rfl
set_option maxHeartbeats 1000000 in
set_option maxRecDepth 20000 in
theorem newRing16_any (w : World) :
    Calls Tryz.prog 276 #[.int .u16 3329, .int .u16 17, .int .i64 2, .func (.func 277) #[] #[]] w fun e w' => e = .returned (.pointer (some ⟨w.heap.size, 0, none⟩)) ∧ w.grownBy w' none ∧ Rg16 w' w.heap.size zetS 3303 := by
  have hR0 := ringA16_rg w 322
  have g0 := World.grownBy_alloc w (.cells ringA16 322) none
  go_enter Tryz.func276, Tryz.ntmps276
  go_wp2_with (first | (go_at_call 341; refine (len_128 _).mono ?_; rintro e w1 ⟨rfl, g1⟩))
  obtain ⟨b, hb⟩ : ∃ b, b = w.heap.size := ⟨_, rfl⟩
  rw [← hb] at hR0 ⊢
  have hR1 := hR0.new g1
  have hg1 := grownBy_trans g0 g1
  have hbw : w.heap.size ≤ b := by omega
  have HB := hid_of hb
  clear hR0 g0 g1 hb
  go_loopw [12, 13, 27] (fun pw _ i wr => ∃ e : Nat, e ≤ 128 ∧ pw = .int .u16 ((17 ^ e % 3329 : Nat) : Int) ∧ i = .int .i64 e ∧ w.grownBy wr none ∧ Rg16 wr b (zTo16 e) 0) (fun _ _ i _ => 128 - (intOf i).toNat)
  case atStart => exact ⟨0, by omega, rfl, rfl, hg1, hR1⟩
  case round =>
    clear hR1 hg1
    obtain ⟨e, he, rfl, rfl, hg, hR⟩ := hrel
    by_cases hlt : e < 128
    · have hrv := (revN16_lt e hlt).1
      have HS := hid_of (zTo16_step e hlt)
      have HPW := hid_of (pw16_step e)
      have hpl : 17 ^ e % 3329 < 3329 := Nat.mod_lt _ (by omega)
      have HRV := hid_of (fun W => reversed_7 e W hlt)
      have eRV : rev8 e / 2 = revN16 e := rfl
      rw [eRV] at HRV
      generalize 17 ^ e % 3329 = p at *
      generalize revN16 e = rv at *
      clear eRV
      have e0 : (0 : Int) ≤ (e : Int) := by omega
      have e1 : (e : Int) < 128 := by omega
      have r0 : (0 : Int) ≤ (rv : Int) := by omega
      have r1 : (rv : Int) < 256 := by omega
      have hrv2 : rv < 256 := by omega
      go_wp2
      go_region_with (first | (go_at_call 342; refine (HRV.out _).mono ?_; rintro _ w2 ⟨rfl, g2⟩; have hR2 := hR.drew.new g2; have cc := (hR2.zetas rv hrv2).1; have ff := (hR2.zetas rv hrv2).2))
      all_goals (
        have hR3 := hR2.zet (i := rv) hrv2 (p : Int)
        have hg3 := grown_setNew (grownBy_trans (grown_drew hg) g2) (p := ⟨b, 3 + rv, none⟩) hbw (.int .u16 (p : Int))
        generalize w2.setCell ⟨b, 3 + rv, none⟩ (.int .u16 (p : Int)) = w3 at *
        clear cc ff hR2 g2
        have HT := hid_of (times16_any b _ _ p 17 w3 hR3 hpl (by omega))
        go_wp2_with (first | (go_at_call 280; refine HT.out.mono ?_; rintro _ w' ⟨rfl, hw⟩; rw [hw]; clear hw w'))
        refine ⟨⟨e + 1, by omega, by rw [← HPW.out]; simp, by go_num, hg3, hR3.ext (fun i _ => HS.out i)⟩, by simp [intOf]; omega⟩)
    · have he2 : e = 128 := by omega
      subst he2
      have hI := hid_of (inverse16_any b _ _ wr hR)
      have cs := hR.scale.1
      have fs := hR.scale.2
      go_wp2_with (first | (go_at_call 343; refine hI.out.mono ?_; rintro _ w' ⟨rfl, hw⟩; rw [hw]; clear hw w'))
      go_ret
      rw [← HB.out]
      exact ⟨rfl, grown_setNew hg hbw _, (hR.sca 3303).ext (fun i _ => zTo16_all i)⟩
set_option maxHeartbeats 400000 in
theorem ring16_any (w : World) :
    Calls Tryz.prog 189 #[] w fun e w' => e = .returned (.pointer (some ⟨w.heap.size, 0, none⟩)) ∧ w.grownBy w' none ∧ Rg16 w' w.heap.size zetS 3303 := by
  go_enter Tryz.func189, Tryz.ntmps189
  go_wp2_with (first | (go_at_call 276; refine (newRing16_any _).mono ?_; rintro e w1 ⟨rfl, g1, hR1⟩))
  go_ret
  exact ⟨rfl, g1, hR1⟩
end Go.Proofs.YtkijpphmiogbbaaGreatDoor

namespace Go.Proofs.YtkijpphmiogbbaaGreatDoor
open Go.RowKit
attribute [local go_sem ↓] Go.wp_at_zero Go.wp_at_succ

theorem zet16_range (i : Nat) : 0 ≤ zetS i ∧ zetS i < 3329 := by
  unfold zetS
  split
  · have := Nat.mod_lt (17 ^ (rev8 i / 2)) (show 0 < 3329 by omega)
    omega
  · omega
def hidSt16 (p v : Value) := Instr.storeAt 160 p v
theorem st_hide16 (p v : Value) : Instr.storeAt 160 p v = hidSt16 p v := rfl
theorem run_hidSt16 (W : World) (b : Nat) (L M : Nat → Int) (hr : PRow .u16 W b 0 M) : (hidSt16 (.pointer (some ⟨b, 0, none⟩)) (.agg (polyA .u16 L))).run Tryz.prog W = .ok () (W.setCells b 0 (polyA .u16 L).toList) :=
  run_storeAt_mid W b 0 160 (polyA .u16 L) (hr.there .u16 L) (by rw [polyA_size]; exact Tryz.sQ16) (polyA_one .u16 L)

set_option maxHeartbeats 1000000 in
set_option maxRecDepth 20000 in
theorem fn16_forward (b n : Nat) (L : Nat → Int) (w : World) (hR : Rg16 w b zetS 3303) (hr : PRow .u16 w n 0 L) (hL : ∀ i, i < 256 → 0 ≤ L i ∧ L i < 3329) :
    Calls Tryz.prog 103 #[.pointer (some ⟨b, 0, none⟩), .slice (some ⟨n, 0, none⟩) 1 1] w fun e w' => e = .returned (.agg (polyA .u16 (fwdN 3329 zetS 7 L))) ∧ w.grownBy w' none := by
  have n1 := new_alloc .u16 w (fun _ => 0) 160
  rw [← Tryz.zQ16] at n1
  have HC := hid_of (fwd16_any b zetS 3303 L (w.alloc (.cells Tryz.zeroCells160 160)) (hR.new n1.g) (fun i _ => zet16_range i) hL)
  go_enter Tryz.func103, Tryz.ntmps103
  go_wp2_with (first | (refine wpL_load rfl .u16 160 _ rfl n 0 rfl _ (hr.new n1.g) Tryz.oQ16 Tryz.sQ16 ?_) | (go_at_call 192; refine HC.out.mono ?_; rintro e w3 ⟨rfl, g3⟩) | (refine wpL_store rfl .u16 160 _ _ rfl w.heap.size 0 rfl _ rfl .u16 _ (n1.r.new g3) Tryz.sQ16 ?_; intro w4 p4))
  refine bodyPost_ret (res1 rfl .u16 _ w4 w.heap.size _ rfl p4.r Tryz.oQ16 Tryz.sQ16) rfl ⟨rfl, grown_new (grownBy_trans n1.g g3) p4.g (Nat.le_refl _)⟩
section
attribute [local go_sem ↓] st_hide16
set_option maxHeartbeats 1000000 in
set_option maxRecDepth 20000 in
theorem modC16_forward (c n : Nat) (L : Nat → Int) (w : World) (hc : w.cell? ⟨c, 0, none⟩ = some (.func (.func 103) #[] #[])) (hr : PRow .u16 w n 0 L) (hL : ∀ i, i < 256 → 0 ≤ L i ∧ L i < 3329) :
    Calls Tryz.prog 188 #[.slice (some ⟨n, 0, none⟩) 1 1, .pointer (some ⟨c, 0, none⟩)] w fun e w' => e = .returned (.agg (polyA .u16 (fwdN 3329 zetS 7 L))) ∧ w.grownBy w' none := by
  have n1 := new_alloc .u16 w (fun _ => 0) 160
  rw [← Tryz.zQ16] at n1
  have hc1 := n1.g.cell hc (by simp)
  have HL := hid_of hL
  go_enter Tryz.func188, Tryz.ntmps188
  go_wp2_with fail
  generalize w.alloc (.cells Tryz.zeroCells160 160) = w1 at *
  have g1 := n1.g
  have r1 := n1.r
  have hr1 := hr.new g1
  clear n1 hc hL
  go_region_with (first | (go_at_call 189; refine (ring16_any _).mono ?_; rintro e w5 ⟨rfl, g5, hR5⟩; have hc5 := g5.cell hc1 (by simp); have hR6 : Rg16 w5 w1.heap.size zetS 3303 := hR5; have hr5 := hr1.drew.new g5; have z5 := r1.drew.new g5; clear hR5) | (go_at_call 103; refine (fn16_forward w1.heap.size n L w5 hR6 hr5 HL.out).mono ?_; rintro e w6 ⟨rfl, g6⟩; have st := run_hidSt16 w6 w.heap.size (fwdN 3329 zetS 7 L) _ (z5.new g6)))
  all_goals (
    have p6 := put_cells .u16 w6 w.heap.size 0 (fwdN 3329 zetS 7 L) ((z5.new g6).there .u16 _)
    have g7 := grown_new (grownBy_trans (grown_drew g1) (grownBy_trans g5 g6)) p6.g (Nat.le_refl _)
    generalize w6.setCells w.heap.size 0 (polyA .u16 (fwdN 3329 zetS 7 L)).toList = w7 at *
    clear st
    go_wp2
    refine bodyPost_ret (res1 rfl .u16 _ w7 w.heap.size _ rfl p6.r Tryz.oQ16 Tryz.sQ16) rfl ⟨rfl, g7⟩)
end

set_option maxHeartbeats 1000000 in
set_option maxRecDepth 20000 in
theorem fn16_inverse (b n : Nat) (L : Nat → Int) (w : World) (hR : Rg16 w b zetS 3303) (hr : PRow .u16 w n 0 L) (hL : ∀ i, i < 256 → 0 ≤ L i ∧ L i < 3329) :
    Calls Tryz.prog 105 #[.pointer (some ⟨b, 0, none⟩), .slice (some ⟨n, 0, none⟩) 1 1] w fun e w' => e = .returned (.agg (polyA .u16 (fun i => invN 3329 zetS 7 L i * 3303 % 3329))) ∧ w.grownBy w' none := by
  have n1 := new_alloc .u16 w (fun _ => 0) 160
  rw [← Tryz.zQ16] at n1
  have HC := hid_of (inv16_any b zetS 3303 L (w.alloc (.cells Tryz.zeroCells160 160)) (hR.new n1.g) (by omega) (fun i _ => zet16_range i) hL)
  go_enter Tryz.func105, Tryz.ntmps105
  go_wp2_with (first | (refine wpL_load rfl .u16 160 _ rfl n 0 rfl _ (hr.new n1.g) Tryz.oQ16 Tryz.sQ16 ?_) | (go_at_call 194; refine HC.out.mono ?_; rintro e w3 ⟨rfl, g3⟩) | (refine wpL_store rfl .u16 160 _ _ rfl w.heap.size 0 rfl _ rfl .u16 _ (n1.r.new g3) Tryz.sQ16 ?_; intro w4 p4))
  refine bodyPost_ret (res1 rfl .u16 _ w4 w.heap.size _ rfl p4.r Tryz.oQ16 Tryz.sQ16) rfl ⟨rfl, grown_new (grownBy_trans n1.g g3) p4.g (Nat.le_refl _)⟩
section
attribute [local go_sem ↓] st_hide16
set_option maxHeartbeats 1000000 in
set_option maxRecDepth 20000 in
theorem modC16_inverse (c n : Nat) (L : Nat → Int) (w : World) (hc : w.cell? ⟨c, 0, none⟩ = some (.func (.func 105) #[] #[])) (hr : PRow .u16 w n 0 L) (hL : ∀ i, i < 256 → 0 ≤ L i ∧ L i < 3329) :
    Calls Tryz.prog 188 #[.slice (some ⟨n, 0, none⟩) 1 1, .pointer (some ⟨c, 0, none⟩)] w fun e w' => e = .returned (.agg (polyA .u16 (fun i => invN 3329 zetS 7 L i * 3303 % 3329))) ∧ w.grownBy w' none := by
  have n1 := new_alloc .u16 w (fun _ => 0) 160
  rw [← Tryz.zQ16] at n1
  have hc1 := n1.g.cell hc (by simp)
  have HL := hid_of hL
  go_enter Tryz.func188, Tryz.ntmps188
  go_wp2_with fail
  generalize w.alloc (.cells Tryz.zeroCells160 160) = w1 at *
  have g1 := n1.g
  have r1 := n1.r
  have hr1 := hr.new g1
  clear n1 hc hL
  go_region_with (first | (go_at_call 189; refine (ring16_any _).mono ?_; rintro e w5 ⟨rfl, g5, hR5⟩; have hc5 := g5.cell hc1 (by simp); have hR6 : Rg16 w5 w1.heap.size zetS 3303 := hR5; have hr5 := hr1.drew.new g5; have z5 := r1.drew.new g5; clear hR5) | (go_at_call 105; refine (fn16_inverse w1.heap.size n L w5 hR6 hr5 HL.out).mono ?_; rintro e w6 ⟨rfl, g6⟩; have st := run_hidSt16 w6 w.heap.size (fun i => invN 3329 zetS 7 L i * 3303 % 3329) _ (z5.new g6)))
  all_goals (
    have p6 := put_cells .u16 w6 w.heap.size 0 (fun i => invN 3329 zetS 7 L i * 3303 % 3329) ((z5.new g6).there .u16 _)
    have g7 := grown_new (grownBy_trans (grown_drew g1) (grownBy_trans g5 g6)) p6.g (Nat.le_refl _)
    generalize w6.setCells w.heap.size 0 (polyA .u16 (fun i => invN 3329 zetS 7 L i * 3303 % 3329)).toList = w7 at *
    clear st
    go_wp2
    refine bodyPost_ret (res1 rfl .u16 _ w7 w.heap.size _ rfl p6.r Tryz.oQ16 Tryz.sQ16) rfl ⟨rfl, g7⟩)
end
end Go.Proofs.YtkijpphmiogbbaaGreatDoor

namespace Go.Proofs.YtkijpphmiogbbaaGreatDoor
open Go.RowKit
attribute [local go_sem ↓] Go.wp_at_zero Go.wp_at_succ

theorem grown_setOne32 (w : World) (p : Addr) (v : Value) : w.grownBy (w.setCell p v) (some p.block) :=
  ⟨rfl, rfl, rfl, by simp, fun k _ hr => Below.heap_setCell _ _ _ _ (fun e => hr (by simp [e]))⟩
set_option maxHeartbeats 4000000 in
set_option maxRecDepth 20000 in
theorem fwd32_any (b : Nat) (z : Nat → Int) (sc : Int) (L : Nat → Int) (w : World) (hR : Rg32 w b z sc) (hz : ∀ i, i < 256 → 0 ≤ z i ∧ z i < 8380417) (hL : ∀ i, i < 256 → 0 ≤ L i ∧ L i < 8380417) :
    Calls Tryz.prog 193 #[.pointer (some ⟨b, 0, none⟩), .agg (polyA .u32 L)] w fun e w' => e = .returned (.agg (polyA .u32 (fwdN 8380417 z 8 L))) ∧ w.grownBy w' none := by
  have HZ := hid_of32 hz
  have HL := hid_of32 hL
  clear hz hL
  have hbw : b < w.heap.size := by have := cell_lt hR.q; simpa using this
  have n1 := new_alloc .u32 w L 166
  have n2 := new_alloc .u32 (w.alloc (.cells (polyA .u32 L) 166)) (fun _ => 0) 166
  rw [← Tryz.zQ32] at n2
  go_enter Tryz.func193, Tryz.ntmps193
  go_wp2
  generalize (w.alloc (.cells (polyA .u32 L) 166)).alloc (.cells Tryz.zeroCells166 166) = w2 at *
  have hF : PRow .u32 w2 w.heap.size 0 L := n1.r.new n2.g
  have hA : PRow .u32 w2 (w.heap.size + 1) 0 (fun _ => 0) := by have := n2.r; rw [n1.s] at this; exact this
  have hg : w.grownBy w2 none := grownBy_trans n1.g n2.g
  have hR2 := hR.new hg
  clear n1 n2 hR
  obtain ⟨B, hB⟩ : ∃ B, B = w.heap.size := ⟨_, rfl⟩
  rw [← hB] at hA hF ⊢
  have hB' : w.heap.size ≤ B := by omega
  have hbB : b < B := by omega
  clear hB hbw
  go_loopw [5, 6, 7, 8, 9, 10] (fun nx hf _ _ _ _ wr => ∃ l : Nat, l ≤ 8 ∧ nx = .int .i64 ((2 ^ l : Nat) : Int) ∧ hf = .int .i64 ((128 / 2 ^ l : Nat) : Int) ∧ w.grownBy wr none ∧ Rg32 wr b z sc ∧ PRow .u32 wr (B + 1) 0 (fun _ => 0) ∧ PRow .u32 wr B 0 (fwdN 8380417 z l L)) (fun nx _ _ _ _ _ _ => 1000 - (intOf nx).toNat)
  case atStart => exact ⟨0, by omega, rfl, rfl, hg, hR2, hA, hF⟩
  case round =>
    clear hA hF hg hR2
    obtain ⟨l, hl, rfl, rfl, hg, hR, hA, hF⟩ := hrel
    have hleaf := hR.leaf
    by_cases hlt : l < 8
    · obtain ⟨h, k, hk, hh0, hk8, eh, ek, hge, hle⟩ := lay_nums32 l hlt
      have HLay := hid_of32 (show fwdN 8380417 z (l + 1) L = layF 8380417 z (128 / 2 ^ l) (2 ^ l) (fwdN 8380417 z l L) from rfl)
      have HM0 : Hid (∀ i, i < 256 → 0 ≤ fwdN 8380417 z l L i ∧ fwdN 8380417 z l L i < 8380417) := fwdN_range 8380417 (by omega) z L HL.out l
      rw [eh] at HLay ⊢
      rw [ek] at HLay ⊢
      generalize fwdN 8380417 z l L = M at *
      have hh1 : (h : Int) ≤ 128 := by omega
      have hge' : (1 : Int) ≤ (h : Int) := by omega
      clear hleaf
      have hleaf := hR.leaf
      go_wp2
      clear hleaf
      go_loopw [5, 7, 8, 9, 10] (fun nx fr _ _ _ wv => ∃ x f c : Nat, c ≤ k ∧ nx = .int .i64 x ∧ fr = .int .i64 f ∧ Hid (x = k + c ∧ f = 2 * h * c) ∧ w.grownBy wv none ∧ Rg32 wv b z sc ∧ PRow .u32 wv (B + 1) 0 (fun _ => 0) ∧ PRow .u32 wv B 0 (layTo 8380417 z h k M (c * h))) (fun _ fr _ _ _ _ => 256 - (intOf fr).toNat)
      case atStart => exact ⟨k, 0, 0, by omega, rfl, rfl, ⟨rfl, by simp⟩, hg, hR, hA, hF.ext (fun j _ => by rw [Nat.zero_mul, layTo_zero])⟩
      case round =>
        clear hg hR hA hF
        obtain ⟨x, f, c, hck, rfl, rfl, HXF, hg, hR, hA, hF⟩ := hrel
        by_cases hc : c < k
        · obtain ⟨hxf1, hxf2⟩ := HXF.out
          have hcc : 2 * h * c + 2 * h ≤ 256 := by rw [← hk, ← Nat.mul_succ]; exact Nat.mul_le_mul_left _ hc
          have hx : x < 256 := by omega
          have hf : f + 2 * h ≤ 256 := by omega
          have x0 : (0 : Int) ≤ (x : Int) := by omega
          have x1 : (x : Int) < 256 := by omega
          have f0 : (0 : Int) ≤ (f : Int) := by omega
          have f1 : (f : Int) < 256 := by omega
          have cz := (hR.zetas x hx).1
          obtain ⟨zz, hzz⟩ : ∃ zz : Nat, z x = (zz : Int) := ⟨(z x).toNat, (Int.toNat_of_nonneg (HZ.out x hx).1).symm⟩
          have hzl : zz < 8380417 := by have := (HZ.out x hx).2; omega
          rw [hzz] at cz
          have HZZ := hid_of32 hzz
          clear hzz hxf1 hxf2 hcc
          go_wp2
          go_loopw [9, 10] (fun i _ wu => ∃ y t : Nat, t ≤ h ∧ i = .int .i64 y ∧ Hid (y = f + t) ∧ w.grownBy wu none ∧ Rg32 wu b z sc ∧ PRow .u32 wu (B + 1) 0 (fun _ => 0) ∧ PRow .u32 wu B 0 (layTo 8380417 z h k M (c * h + t))) (fun i _ _ => 256 - (intOf i).toNat)
          case atStart => exact ⟨f, 0, by omega, rfl, rfl, hg, hR, hA, hF⟩
          case round =>
            clear hg hR hA hF cz
            obtain ⟨y, t, hth, rfl, HY, hg, hR, hA, hF⟩ := hrel
            have hyt : y = f + t := HY.out
            by_cases ht : t < h
            · have hy : y + h < 256 := by omega
              have c1 := hF.at0 y (by omega)
              have c2 := hF.at0 (y + h) hy
              have HE := hid_of32 (show y = 2 * h * c + t by have := HXF.out.2; omega)
              rw [HE.out, (layTo_at 8380417 z h k M c t ht).1, ← HE.out] at c1
              rw [HE.out, (layTo_at 8380417 z h k M c t ht).2, ← HE.out] at c2
              obtain ⟨a, ha⟩ : ∃ a : Nat, M y = (a : Int) := ⟨(M y).toNat, (Int.toNat_of_nonneg (HM0.out y (by omega)).1).symm⟩
              obtain ⟨e, he⟩ : ∃ e : Nat, M (y + h) = (e : Int) := ⟨(M (y + h)).toNat, (Int.toNat_of_nonneg (HM0.out (y + h) hy).1).symm⟩
              have hal : a < 8380417 := by have := (HM0.out y (by omega)).2; omega
              have hel : e < 8380417 := by have := (HM0.out (y + h) hy).2; omega
              rw [ha] at c1
              rw [he] at c2
              have d1 := c1.1
              have d1f := c1.2
              have d2 := c2.1
              have d2f := c2.2
              have HA := hid_of32 ha
              have HEE := hid_of32 he
              obtain ⟨g, hgm⟩ : ∃ g : Nat, g = zz * e % 8380417 := ⟨_, rfl⟩
              have hgl : g < 8380417 := by rw [hgm]; exact Nat.mod_lt _ (by omega)
              have HT := hid_of32 (times32_any b z sc zz e wr hR hzl hel)
              rw [← hgm] at HT
              have HG := hid_of32 hgm
              have HP := hid_of32 (plus32_any b z sc a g wr.drew hR.drew hal hgl)
              have HMi := hid_of32 (minus32_any b z sc a g wr.drew hR.drew hal hgl)
              have y0 : (0 : Int) ≤ (y : Int) := by omega
              have y1 : (y : Int) < 256 := by omega
              have y2 : (0 : Int) ≤ (y : Int) + (h : Int) := by omega
              have y3 : (y : Int) + (h : Int) < 256 := by omega
              have w1 : IntKind.i64.wrap ((y : Int) + (h : Int)) = (y : Int) + (h : Int) := by rw [IntKind.wrap_i64] <;> omega
              have t1 : ((y : Int) + (h : Int)).toNat = y + h := by omega
              have lt1 : (y : Int) < (f : Int) + (h : Int) := by omega
              have hne : ¬ y = y + h := by omega
              have hne2 : ¬ y + h = y := by omega
              obtain ⟨vp, hvp⟩ : ∃ vp : Int, vp = ((a : Int) + (g : Int)) % 8380417 := ⟨_, rfl⟩
              obtain ⟨vm, hvm⟩ : ∃ vm : Int, vm = ((a : Int) - (g : Int)) % 8380417 := ⟨_, rfl⟩
              rw [← hvp] at HP
              rw [← hvm] at HMi
              have HVP := hid_of32 hvp
              have HVM := hid_of32 hvm
              have HV1 : Hid (vp = layF 8380417 z h k M (2 * h * c + t)) := by
                show _ = _
                rw [layF_lo 8380417 z h k M c t ht, ← HE.out, ← HXF.out.1, hvp, HA.out, HEE.out, HZZ.out, HG.out]; simp
              have HV2 : Hid (vm = layF 8380417 z h k M (2 * h * c + t + h)) := by
                show _ = _
                rw [layF_hi 8380417 z h k M c t ht, ← HE.out, ← HXF.out.1, hvm, HA.out, HEE.out, HZZ.out, HG.out]; simp
              clear hvp hvm hgm ha he c1 c2 hyt
              go_wp2_with (first | (go_at_call 283; refine HT.out.mono ?_; rintro _ w' ⟨rfl, hw⟩; rw [hw]; clear hw w'))
              go_region_with (first | (go_at_call 284; refine HP.out.mono ?_; rintro _ w' ⟨rfl, hw⟩; rw [hw]; clear hw w') | (go_at_call 285; refine HMi.out.mono ?_; rintro _ w' ⟨rfl, hw⟩; rw [hw]; clear hw w'))
              all_goals (
                go_wp2
                refine ⟨⟨y + 1, t + 1, by omega, by go_num, ?_, grown_drew (grown_setNew (grown_setNew hg (by simp; omega) _) (by simp; omega) _), ((hR.far (grown_setOne32 _ _ _) (by simp; omega)).far (grown_setOne32 _ _ _) (by simp; omega)).drew, ((hA.set_other (by simp) _).set_other (by simp) _).drew, ?_⟩, by simp [intOf]; omega⟩
                · show y + 1 = f + (t + 1); have := HY.out; omega
                · refine (((hF.set0 (i := y) (by omega) vp).set0 (i := y + h) hy vm).drew).ext (fun j _ => ?_)
                  rw [HV1.out, HV2.out, HE.out]
                  exact layTo_step 8380417 z h k M c t ht j)
            · have hth2 : t = h := by omega
              subst hth2
              have d1 : decide ((y : Int) < (f : Int) + (t : Int)) = false := by simp; omega
              go_wp2
              refine ⟨⟨x + 1, f + 2 * t, c + 1, by omega, by go_num, by go_num, ⟨by have := HXF.out.1; omega, by have := HXF.out.2; rw [Nat.mul_succ]; omega⟩, hg, hR, hA, hF.ext (fun j _ => by rw [Nat.succ_mul])⟩, by simp [intOf]; omega⟩
        · have hc2 : c = k := by omega
          subst hc2
          have hf6 : f = 256 := by have := HXF.out.2; omega
          subst hf6
          go_wp2
          refine ⟨⟨l + 1, by omega, ?_, ?_, hg, hR, hA, hF.ext (fun j hj => by rw [HLay.out]; exact layTo_all 8380417 z h c M hk hh0 j hj)⟩, ?_⟩
          · have := HXF.out.1
            rw [Nat.pow_succ, ek]; congr 1; omega
          · rw [Nat.pow_succ, ← Nat.div_div_eq_div_mul, eh]; congr 1
          · have h1 := HXF.out.1
            have h2 : 0 < c := by
              rcases Nat.eq_zero_or_pos c with e | e
              · rw [e] at hk; simp at hk
              · exact e
            have h3 : c ≤ 128 := hk8
            clear HLay HZ HL HM0 HXF
            simp only [intOf]
            omega
    · have hl7 : l = 8 := by omega
      subst hl7
      go_wp2_with (first | (refine wpL_load rfl .u32 166 _ rfl B 0 rfl _ hF Tryz.oQ32 Tryz.sQ32 ?_) | (refine wpL_store rfl .u32 166 _ _ rfl (B + 1) 0 rfl _ rfl .u32 _ hA Tryz.sQ32 ?_; intro w4 p4))
      refine bodyPost_ret (res1 rfl .u32 _ w4 (B + 1) _ rfl p4.r Tryz.oQ32 Tryz.sQ32) rfl ⟨rfl, grown_new hg p4.g (by omega)⟩
end Go.Proofs.YtkijpphmiogbbaaGreatDoor

namespace Go.Proofs.YtkijpphmiogbbaaGreatDoor
open Go.RowKit
attribute [local go_sem ↓] Go.wp_at_zero Go.wp_at_succ

set_option maxHeartbeats 1000000 in
set_option maxRecDepth 20000 in
theorem each_inverse32 (L M : Nat → Int) (cap : Array Value) (w : World)
    (hM : ∀ i W, i < 256 → w.grownBy W none → Calls Tryz.prog 288 (#[.int .u32 (L i)] ++ cap) W fun e W' => e = .returned (.int .u32 (M i)) ∧ W.grownBy W' none) :
    Calls Tryz.prog 287 #[.agg (polyA .u32 L), .func (.func 288) #[] cap] w fun e w' => e = .returned (.agg (polyA .u32 M)) ∧ w.grownBy w' none := by
  have HM : Hid (∀ i W, i < 256 → w.grownBy W none → Calls Tryz.prog 288 (#[.int .u32 (L i)] ++ cap) W fun e W' => e = .returned (.int .u32 (M i)) ∧ W.grownBy W' none) := hM
  clear hM
  go_enter Tryz.func287, Tryz.ntmps287
  have n1 := new_alloc .u32 w L 166
  go_wp2_with (first | (refine wpL_load rfl .u32 166 _ rfl w.heap.size 0 rfl L ((n1.r).new (World.grownBy_alloc _ _ none)) Tryz.oQ32 Tryz.sQ32 ?_))
  have n2 := new_alloc .u32 (w.alloc (.cells (polyA .u32 L) 166)) (fun _ => 0) 166
  rw [← Tryz.zQ32] at n2
  generalize (w.alloc (.cells (polyA .u32 L) 166)).alloc (.cells Tryz.zeroCells166 166) = w2 at *
  have hR : PRow .u32 w2 w.heap.size 0 L := n1.r.new n2.g
  have hA : PRow .u32 w2 (w.heap.size + 1) 0 (fun _ => 0) := by have := n2.r; rw [n1.s] at this; exact this
  have hg : w.grownBy w2 none := grownBy_trans n1.g n2.g
  clear n1 n2
  obtain ⟨B, hB⟩ : ∃ B, B = w.heap.size := ⟨_, rfl⟩
  rw [← hB] at hA hR ⊢
  have hB' : w.heap.size ≤ B := by omega
  clear hB
  go_loopw [5, 6, 8] (fun _ _ i wr => ∃ k : Nat, k ≤ 256 ∧ i = .int .i64 k ∧ w.grownBy wr none ∧ PRow .u32 wr (B + 1) 0 (fun _ => 0) ∧ PRow .u32 wr B 0 (fun j => if j < k then M j else L j)) (fun _ _ i _ => 256 - (intOf i).toNat)
  case atStart => exact ⟨0, by omega, rfl, hg, hA, hR.ext (fun j _ => by simp)⟩
  case round =>
    clear hA hR hg
    obtain ⟨k, hk, rfl, hg, hA, hR⟩ := hrel
    by_cases hlt : k < 256
    · have b0 : (0 : Int) ≤ (k : Int) := by omega
      have b1 : (k : Int) < 256 := by omega
      have ix := fun W => ix32 L k hlt W
      go_wp2_with (first | (go_at_call 288; refine (HM.out k wr hlt hg).mono ?_; rintro e w5 ⟨rfl, g5⟩; have cc := ((hR.new g5).at0 k hlt).1; have ff := ((hR.new g5).at0 k hlt).2))
      go_roundw
      case rel =>
        refine ⟨k + 1, by omega, by go_num, grown_setNew (grownBy_trans hg (by assumption)) (by simp; omega) _, (hA.new (by assumption)).set_other (by simp) _, ((hR.new (by assumption)).set0 hlt _).ext (fun j _ => mix_step _ _ k j)⟩
      case measure => simp [intOf]; omega
    · have hk6 : k = 256 := by omega
      subst hk6
      have hR' : PRow .u32 wr B 0 M := hR.ext (fun j hj => by simp [hj])
      clear hR
      go_wp2_with (first | (refine wpL_load rfl .u32 166 _ rfl B 0 rfl M hR' Tryz.oQ32 Tryz.sQ32 ?_) | (refine wpL_store rfl .u32 166 _ _ rfl (B + 1) 0 rfl M rfl .u32 _ hA Tryz.sQ32 ?_; intro w4 p4))
      refine bodyPost_ret (res1 rfl .u32 _ w4 (B + 1) M rfl p4.r Tryz.oQ32 Tryz.sQ32) rfl ⟨rfl, grown_new hg p4.g (by omega)⟩
end Go.Proofs.YtkijpphmiogbbaaGreatDoor
