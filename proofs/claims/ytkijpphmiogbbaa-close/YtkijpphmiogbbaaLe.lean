import Derived.Test.YtkijpphmiogbbaaLa
import Derived.Test.YtkijpphmiogbbaaLd
namespace Go.Proofs.Ytkijpphmiogbbaa
open Go.RowKit
attribute [local go_sem ↓] Go.wp_at_zero Go.wp_at_succ

set_option maxHeartbeats 1000000 in
set_option maxRecDepth 20000 in
theorem compress_any (L : Nat → Nat) (d : Nat) (w : World) (hL : ∀ i, i < 256 → L i < 3329) (hd0 : 1 ≤ d) (hd1 : d ≤ 11) :
    Calls Try.prog 12 #[.int .i64 d, .agg (polyA .i64 (fun i => (L i : Int)))] w fun e w' => e = .returned (.tuple #[.agg (polyA .i64 (fun i => ((compI d (L i) : Nat) : Int))), .nilIface]) ∧ w.grownBy w' none := by
  have t1 := three w (.int .i64 (d : Int)) 3 24 24 .i64 .i64 (fun i => (L i : Int))
  rw [← Try.z24] at t1
  have g1 := t1.g
  have c1 := t1.c
  have d0 : decide ((d : Int) < 1) = false := by simp; omega
  have d1 : decide ((11 : Int) < (d : Int)) = false := by simp; omega
  have HL : Hid (∀ i, i < 256 → L i < 3329) := hL
  clear hL
  go_enter Try.func12, Try.ntmps12
  have hbd : ∀ i, i < 256 → compI d (L i) < 65536 := fun i hi => by
    have h := (fine_at d (L i) hd0 hd1 (HL.out i hi)).1
    have hp : (2 : Nat) ^ d ≤ 2048 := Nat.pow_le_pow_right (n := 2) (by omega) hd1
    omega
  have HB : Hid (∀ i, i < 256 → compI d (L i) < 65536) := hbd
  clear hbd
  go_wp2_with (first | (refine wpL_load rfl .i64 24 _ rfl (w.heap.size + 1) 0 rfl _ t1.r ⟨_, Try.uP⟩ Try.sP ?_) | (refine wpL_bs1 rfl _ rfl (fun i => (L i : Int)) rfl ?_; intro w2 n2))
  have r2 : ∀ s, s < 1 → PRow .i64 w2 (w.heap.size + 1 + 1 + 1) (256 * s) (fun i => (L i : Int)) := fun s hs => by
    obtain rfl : s = 0 := by omega
    have h := n2.r
    rw [World.size_alloc, World.size_alloc, World.size_alloc] at h
    exact h
  have c2 := n2.g.cell c1 (by simp)
  have HM : ∀ W c, w2.grownBy W none → (∀ s, s < 1 → PRow .u16 W c (256 * s) (fun i => (L i : Int))) → Calls Try.prog 23 (#[.slice (some ⟨c, 0, none⟩) 1 1] ++ #[.pointer (some ⟨w.heap.size, 0, none⟩)]) W fun e W' => e = .returned (.agg (polyA .u16 (fun i => ((compI d (L i) : Nat) : Int)))) ∧ W.grownBy W' none :=
    fun W c hg hr => compressC_any L d c w.heap.size W HL.out hd0 hd1 (hr 0 (by omega)) (hg.cell c2 (by simp))
  refine (calc_compress (fun _ i => (L i : Int)) (fun i => ((compI d (L i) : Nat) : Int)) 3329 (w.heap.size + 1 + 1 + 1) 1 #[.pointer (some ⟨w.heap.size, 0, none⟩)] w2 (by omega) (by omega) (by omega) (fun s _ i hi => ⟨by omega, by have := HL.out i hi; omega⟩) r2 (fun i hi => ⟨by omega, by have := HB.out i hi; omega⟩) HM).mono ?_
  rintro e w5 ⟨rfl, g5⟩
  go_wp2_with (first | (refine wpL_store rfl .i64 24 _ _ rfl (w.heap.size + 1 + 1) 0 rfl _ rfl .i64 _ ((t1.z.new n2.g).new g5) Try.sP ?_; intro w6 p6))
  refine bodyPost_ret (res2 rfl .i64 _ w6 (w.heap.size + 1 + 1) _ _ rfl rfl p6.r ⟨_, Try.uP⟩ Try.sP) rfl ⟨rfl, grown_new (grownBy_trans (grownBy_trans g1 n2.g) g5) p6.g (by omega)⟩
end Go.Proofs.Ytkijpphmiogbbaa
