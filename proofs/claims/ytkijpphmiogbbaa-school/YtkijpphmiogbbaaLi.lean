import Derived.Test.YtkijpphmiogbbaaL2
import Derived.Test.YtkijpphmiogbbaaL9
namespace Go.Proofs.Ytkijpphmiogbbaa
open Go.RowKit
attribute [local go_sem ↓] Go.wp_at_zero Go.wp_at_succ

theorem mk16 (m : Nat) (hm : m ≤ 8) (W : World) : (Instr.makeSlice 42 (.int .i64 (m : Int)) (.int .i64 (m : Int))).run Try.prog W = .ok (.slice (some ⟨W.heap.size, 0, none⟩) m m) (W.alloc (.cells (madeCells (polyA .u16 (fun _ => 0)) (m * 256)) 44)) := by
  have hinfo : (Try.prog.info? 44).map (fun i => (i.zero, i.size, i.bytes)) = some (some (.agg (polyA .u16 (fun _ => 0))), 256, 512) := by kernel_rfl
  obtain ⟨i0, hi, hz0, hz1, hz2⟩ := info_parts hinfo
  have h := run_make (P := Try.prog) W 42 44 i0 _ (by kernel_rfl) hi hz0 .i64 .i64 m m (by omega) (by omega) (by rw [hz2]; omega) (by omega)
  rw [hz1] at h
  simpa [Value.cells] using h
theorem ixPolys (b m cp k : Nat) (hk : k < m) (W : World) : (Instr.indexAt 49 (.slice (some ⟨b, 0, none⟩) m cp) (.int .i64 (k : Int))).run Try.prog W = .ok (.pointer (some ⟨b, 256 * k, none⟩)) W :=
  run_indexPolys 49 b m cp k hk (by kernel_rfl) (fun W => by kernel_rfl) W
theorem ixPolys16 (b m k : Nat) (hk : k < m) (W : World) : (Instr.indexAt 42 (.slice (some ⟨b, 0, none⟩) m m) (.int .i64 (k : Int))).run Try.prog W = .ok (.pointer (some ⟨b, 256 * k, none⟩)) W :=
  run_indexPolys 42 b m m k hk (by kernel_rfl) (fun W => by kernel_rfl) W

set_option maxHeartbeats 2000000 in
set_option maxRecDepth 20000 in
theorem narrowed16_ok (Ls : Nat → Nat → Int) (n : Int) (b m cp : Nat) (w : World) (hm : m ≤ 8) (hn : n ≤ 65536)
    (hL : ∀ s, s < m → ∀ i, i < 256 → 0 ≤ Ls s i ∧ Ls s i < n) (hr : ∀ s, s < m → PRow .i64 w b (256 * s) (Ls s)) :
    Calls Try.prog 38 #[.int .i64 n, .slice (some ⟨b, 0, none⟩) m cp] w fun e w' => e = .returned (.tuple #[.slice (some ⟨w.heap.size, 0, none⟩) m m, .nilIface]) ∧ w.grownBy w' none ∧ ∀ s, s < m → PRow .u16 w' w.heap.size (256 * s) (Ls s) := by
  have HL : Hid (∀ s, s < m → ∀ i, i < 256 → 0 ≤ Ls s i ∧ Ls s i < n) := hL
  have HR : Hid (∀ s, s < m → PRow .i64 w b (256 * s) (Ls s)) := hr
  clear hL hr
  have hmk := mk16 m hm
  have m2 := made_rows .u16 w m 44
  have g2 := World.grownBy_alloc w (.cells (madeCells (polyA .u16 (fun _ => 0)) (m * 256)) 44) none
  go_enter Try.func38, Try.ntmps38
  go_wp2
  generalize w.alloc (.cells (madeCells (polyA .u16 (fun _ => 0)) (m * 256)) 44) = w2 at *
  obtain ⟨B, hB⟩ : ∃ B, B = w.heap.size := ⟨_, rfl⟩
  rw [← hB] at m2 ⊢
  have hN : Nar .u16 w2 B m 0 Ls := ⟨fun s hs => absurd hs (by omega), fun s _ hs => m2 s hs⟩
  have hg : w.grownBy w2 none := g2
  clear g2 m2 hmk
  have hB' : w.heap.size ≤ B := by omega
  have HB : Hid (B = w.heap.size) := hB
  clear hB
  go_loopw [7, 8, 9, 15] (fun _ _ _ i wr => ∃ k : Nat, k ≤ m ∧ i = .int .i64 k ∧ w.grownBy wr none ∧ Nar .u16 wr B m k Ls) (fun _ _ _ i _ => m - (intOf i).toNat)
  case atStart => exact ⟨0, by omega, rfl, hg, hN⟩
  case round =>
    clear hN hg
    obtain ⟨k, hk, rfl, hg, hN⟩ := hrel
    by_cases hlt : k < m
    · have b0 : (0 : Int) ≤ (k : Int) := by omega
      have b1 : (k : Int) < (m : Int) := by omega
      have ix := fun W => ixPolys b m cp k hlt W
      have ix2 := fun W => ixPolys16 B m k hlt W
      have hb := (HR.out k hlt).new hg
      have n1 := new_alloc .i64 wr (fun _ => 0) 24
      rw [← Try.z24] at n1
      have hNw : B < wr.heap.size := (hN.left k (Nat.le_refl _) hlt).lt
      go_wp2_with (first | (refine wpL_load rfl .i64 24 _ rfl b (256 * k) rfl _ hb ⟨_, Try.uP⟩ Try.sP ?_) | (refine wpL_store rfl .i64 24 _ _ rfl wr.heap.size 0 rfl _ rfl .i64 _ n1.r Try.sP ?_; intro w3 p3) | (refine wpL_load rfl .i64 24 _ rfl wr.heap.size 0 rfl _ p3.r ⟨_, Try.uP⟩ Try.sP ?_) | (go_at_call 62; refine (narrow16_ok (Ls k) n _ (HL.out k hlt) hn).mono ?_; rintro e w4 ⟨rfl, g4⟩) | (refine wpL_store rfl .u16 44 _ _ rfl B (256 * k) rfl _ rfl .u16 _ ((((hN.left k (Nat.le_refl _) hlt).new n1.g).far p3.g (by simp; omega)).new g4) Try.sQ16 ?_; intro w5 p5))
      go_roundw
      case rel =>
        have hN4 := ((hN.new n1.g).far p3.g (by simp; omega)).new g4
        have hg4 := grownBy_trans (grown_new (grownBy_trans hg n1.g) p3.g (by omega)) g4
        exact ⟨k + 1, by omega, by go_num, grown_new hg4 p5.g (by omega), hN4.step p5⟩
      case measure => simp [intOf]; omega
    · have hk6 : m = k := by omega
      subst hk6
      go_wp2
      have hBe := HB.out
      subst hBe
      go_ret2
      exact ⟨rfl, hg, fun s hs => hN.done s hs⟩
end Go.Proofs.Ytkijpphmiogbbaa
