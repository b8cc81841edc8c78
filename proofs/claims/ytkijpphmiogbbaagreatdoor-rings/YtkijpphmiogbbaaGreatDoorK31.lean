import Derived.Test.YtkijpphmiogbbaaGreatDoorK17
import Derived.Test.YtkijpphmiogbbaaGreatDoorK26
import Derived.Test.YtkijpphmiogbbaaGreatDoorK30
namespace Go.Proofs.YtkijpphmiogbbaaGreatDoor
open Go.RowKit
attribute [local go_sem ↓] Go.wp_at_zero Go.wp_at_succ

set_option maxHeartbeats 2000000 in
set_option maxRecDepth 20000 in
theorem narrowed16_bad (Ls : Nat → Nat → Int) (n : Int) (b m cp : Nat) (w : World) (hm : m ≤ 8) (hn : n ≤ 65536) (s0 : Nat) (hs0 : s0 < m)
    (hL : ∀ s, s < s0 → ∀ i, i < 256 → 0 ≤ Ls s i ∧ Ls s i < n) (hr : ∀ s, s < m → PRow .i64 w b (256 * s) (Ls s)) (k0 : Nat) (hk0 : k0 < 256) (hb0 : ∀ i, i < k0 → 0 ≤ Ls s0 i ∧ Ls s0 i < n) (hbad : Ls s0 k0 < 0 ∨ n ≤ Ls s0 k0) :
    Calls Tryz.prog 198 #[.int .i64 n, .slice (some ⟨b, 0, none⟩) m cp] w fun e w' => e = .returned (.tuple #[.slice none 0 0, .iface 138 (.int .i64 5)]) ∧ w.grownBy w' none := by
  have HL : Hid (∀ s, s < s0 → ∀ i, i < 256 → 0 ≤ Ls s i ∧ Ls s i < n) := hL
  have HR : Hid (∀ s, s < m → PRow .i64 w b (256 * s) (Ls s)) := hr
  have HBD : Hid (∀ W, Calls Tryz.prog 293 #[.agg (polyA .i64 (Ls s0)), .int .i64 n] W fun e w' => e = .returned (.tuple #[.agg (polyA .u16 (fun _ => 0)), .iface 138 (.int .i64 5)]) ∧ W.grownBy w' none) := fun W => narrow16_bad (Ls s0) n W k0 hk0 hb0 hbad hn
  clear hL hr hb0 hbad hk0
  have hmk := mk16 m hm
  have m2 := made_rows .u16 w m 160
  have g2 := World.grownBy_alloc w (.cells (madeCells (polyA .u16 (fun _ => 0)) (m * 256)) 160) none
  go_enter Tryz.func198, Tryz.ntmps198
  go_wp2
  generalize w.alloc (.cells (madeCells (polyA .u16 (fun _ => 0)) (m * 256)) 160) = w2 at *
  obtain ⟨B, hB⟩ : ∃ B, B = w.heap.size := ⟨_, rfl⟩
  rw [← hB] at m2 ⊢
  have hN : Nar .u16 w2 B m 0 Ls := ⟨fun s hs => absurd hs (by omega), fun s _ hs => m2 s hs⟩
  have hg : w.grownBy w2 none := g2
  clear g2 m2 hmk
  have hB' : w.heap.size ≤ B := by omega
  clear hB
  go_loopw [7, 8, 9, 15] (fun _ _ _ i wr => ∃ k : Nat, k ≤ s0 ∧ i = .int .i64 k ∧ w.grownBy wr none ∧ Nar .u16 wr B m k Ls) (fun _ _ _ i _ => m - (intOf i).toNat)
  case atStart => exact ⟨0, by omega, rfl, hg, hN⟩
  case round =>
    clear hN hg
    obtain ⟨k, hk, rfl, hg, hN⟩ := hrel
    have hltm : k < m := by omega
    by_cases hlt : k < s0
    · have b0 : (0 : Int) ≤ (k : Int) := by omega
      have b1 : (k : Int) < (m : Int) := by omega
      have ix := fun W => ixPolys b m cp k hltm W
      have ix2 := fun W => ixPolys16 B m k hltm W
      have hb := (HR.out k hltm).new hg
      have n1 := new_alloc .i64 wr (fun _ => 0) 71
      rw [← Tryz.z24] at n1
      have hNw : B < wr.heap.size := (hN.left k (Nat.le_refl _) hltm).lt
      go_wp2_with (first | (refine wpL_load rfl .i64 71 _ rfl b (256 * k) rfl _ hb ⟨_, Tryz.uP⟩ Tryz.sP ?_) | (refine wpL_store rfl .i64 71 _ _ rfl wr.heap.size 0 rfl _ rfl .i64 _ n1.r Tryz.sP ?_; intro w3 p3) | (refine wpL_load rfl .i64 71 _ rfl wr.heap.size 0 rfl _ p3.r ⟨_, Tryz.uP⟩ Tryz.sP ?_) | (go_at_call 293; refine (narrow16_ok (Ls k) n _ (HL.out k hlt) hn).mono ?_; rintro e w4 ⟨rfl, g4⟩) | (refine wpL_store rfl .u16 160 _ _ rfl B (256 * k) rfl _ rfl .u16 _ ((((hN.left k (Nat.le_refl _) hltm).new n1.g).far p3.g (by simp; omega)).new g4) Tryz.sQ16 ?_; intro w5 p5))
      go_roundw
      case rel =>
        have hN4 := ((hN.new n1.g).far p3.g (by simp; omega)).new g4
        have hg4 := grownBy_trans (grown_new (grownBy_trans hg n1.g) p3.g (by omega)) g4
        exact ⟨k + 1, by omega, by go_num, grown_new hg4 p5.g (by omega), hN4.step p5⟩
      case measure => simp [intOf]; omega
    · obtain rfl : k = s0 := by omega
      have b0 : (0 : Int) ≤ (k : Int) := by omega
      have b1 : (k : Int) < (m : Int) := by omega
      have ix := fun W => ixPolys b m cp k hltm W
      have ix2 := fun W => ixPolys16 B m k hltm W
      have hb := (HR.out k hltm).new hg
      have n1 := new_alloc .i64 wr (fun _ => 0) 71
      rw [← Tryz.z24] at n1
      have hNw : B < wr.heap.size := (hN.left k (Nat.le_refl _) hltm).lt
      go_wp2_with (first | (refine wpL_load rfl .i64 71 _ rfl b (256 * k) rfl _ hb ⟨_, Tryz.uP⟩ Tryz.sP ?_) | (refine wpL_store rfl .i64 71 _ _ rfl wr.heap.size 0 rfl _ rfl .i64 _ n1.r Tryz.sP ?_; intro w3 p3) | (refine wpL_load rfl .i64 71 _ rfl wr.heap.size 0 rfl _ p3.r ⟨_, Tryz.uP⟩ Tryz.sP ?_) | (go_at_call 293; refine (HBD.out _).mono ?_; rintro e w4 ⟨rfl, g4⟩) | (refine wpL_store rfl .u16 160 _ _ rfl B (256 * k) rfl _ rfl .u16 _ ((((hN.left k (Nat.le_refl _) hltm).new n1.g).far p3.g (by simp; omega)).new g4) Tryz.sQ16 ?_; intro w5 p5))
      go_ret2
      have hg4 := grownBy_trans (grown_new (grownBy_trans hg n1.g) p3.g (by omega)) g4
      exact ⟨rfl, grown_new hg4 p5.g (by omega)⟩
set_option maxHeartbeats 2000000 in
set_option maxRecDepth 20000 in
theorem calc16_bad (Ls : Nat → Nat → Int) (n : Int) (b m u : Nat) (cap : Array Value) (w : World) (hm : m ≤ 2) (hn : n ≤ 65536) (s0 : Nat) (hs0 : s0 < m)
    (hL : ∀ s, s < s0 → ∀ i, i < 256 → 0 ≤ Ls s i ∧ Ls s i < n) (hr : ∀ s, s < m → PRow .i64 w b (256 * s) (Ls s)) (k0 : Nat) (hk0 : k0 < 256) (hb0 : ∀ i, i < k0 → 0 ≤ Ls s0 i ∧ Ls s0 i < n) (hbad : Ls s0 k0 < 0 ∨ n ≤ Ls s0 k0) :
    Calls Tryz.prog 109 #[.int .i64 n, .func (.func u) #[] cap, .slice (some ⟨b, 0, none⟩) m m] w fun e w' => e = .returned (.tuple #[.agg (polyA .i64 (fun _ => 0)), .iface 138 (.int .i64 5)]) ∧ w.grownBy w' none := by
  have n1 := new_alloc .i64 w (fun _ => 0) 71
  rw [← Tryz.z24] at n1
  have HN : Hid (∀ W, w.grownBy W none → Calls Tryz.prog 198 #[.int .i64 n, .slice (some ⟨b, 0, none⟩) m m] W fun e w' => e = .returned (.tuple #[.slice none 0 0, .iface 138 (.int .i64 5)]) ∧ W.grownBy w' none) := fun W hg => narrowed16_bad Ls n b m m W (by omega) hn s0 hs0 hL (fun s hs => (hr s hs).new hg) k0 hk0 hb0 hbad
  clear hL hr hb0 hbad hk0
  go_enter Tryz.func109, Tryz.ntmps109
  go_wp2_with (first | (go_at_call 198; refine (HN.out _ n1.g).mono ?_; rintro e w2 ⟨rfl, g2⟩; have hg := grownBy_trans n1.g g2; have hA := n1.r.new g2) | (refine wpL_store rfl .i64 71 _ _ rfl w.heap.size 0 rfl (fun _ => 0) (by rw [← Tryz.z24]; rfl) .i64 _ hA Tryz.sP ?_; intro w6 p6))
  refine bodyPost_ret (res2 rfl .i64 _ w6 w.heap.size _ _ rfl rfl p6.r ⟨_, Tryz.uP⟩ Tryz.sP) rfl ⟨rfl, grown_new hg p6.g (by omega)⟩
set_option maxHeartbeats 2000000 in
set_option maxRecDepth 20000 in
theorem narrowed32_bad (Ls : Nat → Nat → Int) (n : Int) (b m cp : Nat) (w : World) (hm : m ≤ 8) (hn : n ≤ 4294967296) (s0 : Nat) (hs0 : s0 < m)
    (hL : ∀ s, s < s0 → ∀ i, i < 256 → 0 ≤ Ls s i ∧ Ls s i < n) (hr : ∀ s, s < m → PRow .i64 w b (256 * s) (Ls s)) (k0 : Nat) (hk0 : k0 < 256) (hb0 : ∀ i, i < k0 → 0 ≤ Ls s0 i ∧ Ls s0 i < n) (hbad : Ls s0 k0 < 0 ∨ n ≤ Ls s0 k0) :
    Calls Tryz.prog 133 #[.int .i64 n, .slice (some ⟨b, 0, none⟩) m cp] w fun e w' => e = .returned (.tuple #[.slice none 0 0, .iface 138 (.int .i64 5)]) ∧ w.grownBy w' none := by
  have HL : Hid (∀ s, s < s0 → ∀ i, i < 256 → 0 ≤ Ls s i ∧ Ls s i < n) := hL
  have HR : Hid (∀ s, s < m → PRow .i64 w b (256 * s) (Ls s)) := hr
  have HBD : Hid (∀ W, Calls Tryz.prog 122 #[.agg (polyA .i64 (Ls s0)), .int .i64 n] W fun e w' => e = .returned (.tuple #[.agg (polyA .u32 (fun _ => 0)), .iface 138 (.int .i64 5)]) ∧ W.grownBy w' none) := fun W => narrow32_bad (Ls s0) n W k0 hk0 hb0 hbad hn
  clear hL hr hb0 hbad hk0
  have hmk := mk32 m hm
  have m2 := made_rows .u32 w m 166
  have g2 := World.grownBy_alloc w (.cells (madeCells (polyA .u32 (fun _ => 0)) (m * 256)) 166) none
  go_enter Tryz.func133, Tryz.ntmps133
  go_wp2
  generalize w.alloc (.cells (madeCells (polyA .u32 (fun _ => 0)) (m * 256)) 166) = w2 at *
  obtain ⟨B, hB⟩ : ∃ B, B = w.heap.size := ⟨_, rfl⟩
  rw [← hB] at m2 ⊢
  have hN : Nar .u32 w2 B m 0 Ls := ⟨fun s hs => absurd hs (by omega), fun s _ hs => m2 s hs⟩
  have hg : w.grownBy w2 none := g2
  clear g2 m2 hmk
  have hB' : w.heap.size ≤ B := by omega
  clear hB
  go_loopw [7, 8, 9, 15] (fun _ _ _ i wr => ∃ k : Nat, k ≤ s0 ∧ i = .int .i64 k ∧ w.grownBy wr none ∧ Nar .u32 wr B m k Ls) (fun _ _ _ i _ => m - (intOf i).toNat)
  case atStart => exact ⟨0, by omega, rfl, hg, hN⟩
  case round =>
    clear hN hg
    obtain ⟨k, hk, rfl, hg, hN⟩ := hrel
    have hltm : k < m := by omega
    by_cases hlt : k < s0
    · have b0 : (0 : Int) ≤ (k : Int) := by omega
      have b1 : (k : Int) < (m : Int) := by omega
      have ix := fun W => ixPolysc b m cp k hltm W
      have ix2 := fun W => ixPolys32 B m k hltm W
      have hb := (HR.out k hltm).new hg
      have n1 := new_alloc .i64 wr (fun _ => 0) 71
      rw [← Tryz.z24] at n1
      have hNw : B < wr.heap.size := (hN.left k (Nat.le_refl _) hltm).lt
      go_wp2_with (first | (refine wpL_load rfl .i64 71 _ rfl b (256 * k) rfl _ hb ⟨_, Tryz.uP⟩ Tryz.sP ?_) | (refine wpL_store rfl .i64 71 _ _ rfl wr.heap.size 0 rfl _ rfl .i64 _ n1.r Tryz.sP ?_; intro w3 p3) | (refine wpL_load rfl .i64 71 _ rfl wr.heap.size 0 rfl _ p3.r ⟨_, Tryz.uP⟩ Tryz.sP ?_) | (go_at_call 122; refine (narrow32_ok (Ls k) n _ (HL.out k hlt) hn).mono ?_; rintro e w4 ⟨rfl, g4⟩) | (refine wpL_store rfl .u32 166 _ _ rfl B (256 * k) rfl _ rfl .u32 _ ((((hN.left k (Nat.le_refl _) hltm).new n1.g).far p3.g (by simp; omega)).new g4) Tryz.sQ32 ?_; intro w5 p5))
      go_roundw
      case rel =>
        have hN4 := ((hN.new n1.g).far p3.g (by simp; omega)).new g4
        have hg4 := grownBy_trans (grown_new (grownBy_trans hg n1.g) p3.g (by omega)) g4
        exact ⟨k + 1, by omega, by go_num, grown_new hg4 p5.g (by omega), hN4.step p5⟩
      case measure => simp [intOf]; omega
    · obtain rfl : k = s0 := by omega
      have b0 : (0 : Int) ≤ (k : Int) := by omega
      have b1 : (k : Int) < (m : Int) := by omega
      have ix := fun W => ixPolysc b m cp k hltm W
      have ix2 := fun W => ixPolys32 B m k hltm W
      have hb := (HR.out k hltm).new hg
      have n1 := new_alloc .i64 wr (fun _ => 0) 71
      rw [← Tryz.z24] at n1
      have hNw : B < wr.heap.size := (hN.left k (Nat.le_refl _) hltm).lt
      go_wp2_with (first | (refine wpL_load rfl .i64 71 _ rfl b (256 * k) rfl _ hb ⟨_, Tryz.uP⟩ Tryz.sP ?_) | (refine wpL_store rfl .i64 71 _ _ rfl wr.heap.size 0 rfl _ rfl .i64 _ n1.r Tryz.sP ?_; intro w3 p3) | (refine wpL_load rfl .i64 71 _ rfl wr.heap.size 0 rfl _ p3.r ⟨_, Tryz.uP⟩ Tryz.sP ?_) | (go_at_call 122; refine (HBD.out _).mono ?_; rintro e w4 ⟨rfl, g4⟩) | (refine wpL_store rfl .u32 166 _ _ rfl B (256 * k) rfl _ rfl .u32 _ ((((hN.left k (Nat.le_refl _) hltm).new n1.g).far p3.g (by simp; omega)).new g4) Tryz.sQ32 ?_; intro w5 p5))
      go_ret2
      have hg4 := grownBy_trans (grown_new (grownBy_trans hg n1.g) p3.g (by omega)) g4
      exact ⟨rfl, grown_new hg4 p5.g (by omega)⟩
set_option maxHeartbeats 2000000 in
set_option maxRecDepth 20000 in
theorem calc32_bad (Ls : Nat → Nat → Int) (n : Int) (b m u : Nat) (cap : Array Value) (w : World) (hm : m ≤ 2) (hn : n ≤ 4294967296) (s0 : Nat) (hs0 : s0 < m)
    (hL : ∀ s, s < s0 → ∀ i, i < 256 → 0 ≤ Ls s i ∧ Ls s i < n) (hr : ∀ s, s < m → PRow .i64 w b (256 * s) (Ls s)) (k0 : Nat) (hk0 : k0 < 256) (hb0 : ∀ i, i < k0 → 0 ≤ Ls s0 i ∧ Ls s0 i < n) (hbad : Ls s0 k0 < 0 ∨ n ≤ Ls s0 k0) :
    Calls Tryz.prog 135 #[.int .i64 n, .func (.func u) #[] cap, .slice (some ⟨b, 0, none⟩) m m] w fun e w' => e = .returned (.tuple #[.agg (polyA .i64 (fun _ => 0)), .iface 138 (.int .i64 5)]) ∧ w.grownBy w' none := by
  have n1 := new_alloc .i64 w (fun _ => 0) 71
  rw [← Tryz.z24] at n1
  have HN : Hid (∀ W, w.grownBy W none → Calls Tryz.prog 133 #[.int .i64 n, .slice (some ⟨b, 0, none⟩) m m] W fun e w' => e = .returned (.tuple #[.slice none 0 0, .iface 138 (.int .i64 5)]) ∧ W.grownBy w' none) := fun W hg => narrowed32_bad Ls n b m m W (by omega) hn s0 hs0 hL (fun s hs => (hr s hs).new hg) k0 hk0 hb0 hbad
  clear hL hr hb0 hbad hk0
  go_enter Tryz.func135, Tryz.ntmps135
  go_wp2_with (first | (go_at_call 133; refine (HN.out _ n1.g).mono ?_; rintro e w2 ⟨rfl, g2⟩; have hg := grownBy_trans n1.g g2; have hA := n1.r.new g2) | (refine wpL_store rfl .i64 71 _ _ rfl w.heap.size 0 rfl (fun _ => 0) (by rw [← Tryz.z24]; rfl) .i64 _ hA Tryz.sP ?_; intro w6 p6))
  refine bodyPost_ret (res2 rfl .i64 _ w6 w.heap.size _ _ rfl rfl p6.r ⟨_, Tryz.uP⟩ Tryz.sP) rfl ⟨rfl, grown_new hg p6.g (by omega)⟩
end Go.Proofs.YtkijpphmiogbbaaGreatDoor
