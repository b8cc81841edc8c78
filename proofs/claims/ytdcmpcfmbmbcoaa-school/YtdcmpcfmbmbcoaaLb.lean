import Derived.Test.YtdcmpcfmbmbcoaaL2
import Derived.Test.YtdcmpcfmbmbcoaaL9
namespace Go.Proofs.Ytdcmpcfmbmbcoaa
open Go.RowKit
attribute [local go_sem ↓] Go.wp_at_zero Go.wp_at_succ

theorem mkb16 (m : Nat) (hm : m ≤ 2) (W : World) : (Instr.makeSlice 42 (.int .i64 (m : Int)) (.int .i64 (m : Int))).run Try.prog W = .ok (.slice (some ⟨W.heap.size, 0, none⟩) m m) (W.alloc (.cells (madeCells (polyA .u16 (fun _ => 0)) (m * 256)) 44)) := by
  have hinfo : (Try.prog.info? 44).map (fun i => (i.zero, i.size, i.bytes)) = some (some (.agg (polyA .u16 (fun _ => 0))), 256, 512) := by kernel_rfl
  obtain ⟨i0, hi, hz0, hz1, hz2⟩ := info_parts hinfo
  have h := run_make (P := Try.prog) W 42 44 i0 _ (by kernel_rfl) hi hz0 .i64 .i64 m m (by omega) (by omega) (by rw [hz2]; omega) (by omega)
  rw [hz1] at h
  simpa [Value.cells] using h
theorem ixPolysb (b m k : Nat) (hk : k < m) (W : World) : (Instr.indexAt 49 (.slice (some ⟨b, 0, none⟩) m m) (.int .i64 (k : Int))).run Try.prog W = .ok (.pointer (some ⟨b, 256 * k, none⟩)) W :=
  run_indexPolys 49 b m k hk (by kernel_rfl) (fun W => by kernel_rfl) W
theorem ixPolysb16 (b m k : Nat) (hk : k < m) (W : World) : (Instr.indexAt 42 (.slice (some ⟨b, 0, none⟩) m m) (.int .i64 (k : Int))).run Try.prog W = .ok (.pointer (some ⟨b, 256 * k, none⟩)) W :=
  run_indexPolys 42 b m k hk (by kernel_rfl) (fun W => by kernel_rfl) W

set_option maxHeartbeats 2000000 in
set_option maxRecDepth 20000 in
theorem calc_modulo16 (Ls : Nat → Nat → Int) (M : Nat → Int) (n : Int) (b m : Nat) (cap : Array Value) (w : World) (hm0 : 1 ≤ m) (hm : m ≤ 2) (hn : n ≤ 65536)
    (hL : ∀ s, s < m → ∀ i, i < 256 → 0 ≤ Ls s i ∧ Ls s i < n) (hr : ∀ s, s < m → PRow .i64 w b (256 * s) (Ls s)) (hM0 : ∀ i, i < 256 → 0 ≤ M i ∧ M i < 65536)
    (hM : ∀ W c, w.grownBy W none → (∀ s, s < m → PRow .u16 W c (256 * s) (Ls s)) → Calls Try.prog 27 (#[.slice (some ⟨c, 0, none⟩) m m] ++ cap) W fun e W' => e = .returned (.agg (polyA .u16 M)) ∧ W.grownBy W' none) :
    Calls Try.prog 22 #[.int .i64 n, .func (.func 27) #[] cap, .slice (some ⟨b, 0, none⟩) m m] w fun e w' => e = .returned (.tuple #[.agg (polyA .i64 M), .nilIface]) ∧ w.grownBy w' none := by
  have HM : Hid (∀ W c, w.grownBy W none → (∀ s, s < m → PRow .u16 W c (256 * s) (Ls s)) → Calls Try.prog 27 (#[.slice (some ⟨c, 0, none⟩) m m] ++ cap) W fun e W' => e = .returned (.agg (polyA .u16 M)) ∧ W.grownBy W' none) := hM
  have HL : Hid (∀ s, s < m → ∀ i, i < 256 → 0 ≤ Ls s i ∧ Ls s i < n) := hL
  have HR : Hid (∀ s, s < m → PRow .i64 w b (256 * s) (Ls s)) := hr
  have H0 : Hid (∀ i, i < 256 → 0 ≤ M i ∧ M i < 65536) := hM0
  clear hM hL hr hM0
  have hmk := mkb16 m hm
  have n1 := new_alloc .i64 w (fun _ => 0) 24
  rw [← Try.z24] at n1
  have m2 := made_rows .u16 (w.alloc (.cells Try.zeroCells24 24)) m 44
  have g2 := World.grownBy_alloc (w.alloc (.cells Try.zeroCells24 24)) (.cells (madeCells (polyA .u16 (fun _ => 0)) (m * 256)) 44) none
  go_enter Try.func22, Try.ntmps22
  go_wp2
  generalize (w.alloc (.cells Try.zeroCells24 24)).alloc (.cells (madeCells (polyA .u16 (fun _ => 0)) (m * 256)) 44) = w2 at *
  have hA : PRow .i64 w2 w.heap.size 0 (fun _ => 0) := n1.r.new g2
  have hN : Nar .u16 w2 (w.heap.size + 1) m 0 Ls := ⟨fun s hs => absurd hs (by omega), fun s _ hs => by have := m2 s hs; rw [n1.s] at this; exact this⟩
  have hg : w.grownBy w2 none := grownBy_trans n1.g g2
  clear n1 g2 m2 hmk
  obtain ⟨B, hB⟩ : ∃ B, B = w.heap.size := ⟨_, rfl⟩
  rw [← hB] at hA hN ⊢
  have hB' : w.heap.size ≤ B := by omega
  clear hB
  go_loopw [9, 10, 11, 17] (fun _ _ _ i wr => ∃ k : Nat, k ≤ m ∧ i = .int .i64 k ∧ w.grownBy wr none ∧ PRow .i64 wr B 0 (fun _ => 0) ∧ Nar .u16 wr (B + 1) m k Ls) (fun _ _ _ i _ => m - (intOf i).toNat)
  case atStart => exact ⟨0, by omega, rfl, hg, hA, hN⟩
  case round =>
    clear hA hN hg
    obtain ⟨k, hk, rfl, hg, hA, hN⟩ := hrel
    by_cases hlt : k < m
    · have b0 : (0 : Int) ≤ (k : Int) := by omega
      have b1 : (k : Int) < (m : Int) := by omega
      have ix := fun W => ixPolysb b m k hlt W
      have ix2 := fun W => ixPolysb16 (B + 1) m k hlt W
      have hb := (HR.out k hlt).new hg
      have n1 := new_alloc .i64 wr (fun _ => 0) 24
      rw [← Try.z24] at n1
      have hBw : B < wr.heap.size := hA.lt
      have hNw : B + 1 < wr.heap.size := (hN.left k (Nat.le_refl _) hlt).lt
      go_wp2_with (first | (refine wpL_load rfl .i64 24 _ rfl b (256 * k) rfl _ hb ⟨_, Try.uP⟩ Try.sP ?_) | (refine wpL_store rfl .i64 24 _ _ rfl wr.heap.size 0 rfl _ rfl .i64 _ n1.r Try.sP ?_; intro w3 p3) | (refine wpL_load rfl .i64 24 _ rfl wr.heap.size 0 rfl _ p3.r ⟨_, Try.uP⟩ Try.sP ?_) | (go_at_call 38; refine (narrow16_ok (Ls k) n _ (HL.out k hlt) hn).mono ?_; rintro e w4 ⟨rfl, g4⟩) | (refine wpL_store rfl .u16 44 _ _ rfl (B + 1) (256 * k) rfl _ rfl .u16 _ ((((hN.left k (Nat.le_refl _) hlt).new n1.g).far p3.g (by simp; omega)).new g4) Try.sQ16 ?_; intro w5 p5))
      go_roundw
      case rel =>
        have hN4 := ((hN.new n1.g).far p3.g (by simp; omega)).new g4
        have hA4 := ((hA.new n1.g).far p3.g (by simp; omega)).new g4
        have hg4 := grownBy_trans (grown_new (grownBy_trans hg n1.g) p3.g (by omega)) g4
        exact ⟨k + 1, by omega, by go_num, grown_new hg4 p5.g (by omega), hA4.far p5.g (by simp), hN4.step p5⟩
      case measure => simp [intOf]; omega
    · have hk6 : m = k := by omega
      subst hk6
      go_wp2_with (first | (go_at_call 27; refine (HM.out _ (B + 1) hg (fun s hs => hN.done s hs)).mono ?_; rintro e w3 ⟨rfl, g3⟩) | (go_at_call 39; refine (wide16_any M _ H0.out).mono ?_; rintro e w4 ⟨rfl, g4⟩) | (refine wpL_store rfl .i64 24 _ _ rfl B 0 rfl _ rfl .i64 _ ((hA.new g3).new g4) Try.sP ?_; intro w5 p5))
      refine bodyPost_ret (res2 rfl .i64 _ w5 B M _ rfl rfl p5.r ⟨_, Try.uP⟩ Try.sP) rfl ⟨rfl, grown_new (grownBy_trans (grownBy_trans hg g3) g4) p5.g (by omega)⟩
end Go.Proofs.Ytdcmpcfmbmbcoaa
