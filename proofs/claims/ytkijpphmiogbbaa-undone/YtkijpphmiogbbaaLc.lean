import Derived.Test.YtkijpphmiogbbaaLj
namespace Go.Proofs.Ytkijpphmiogbbaa
open Go.RowKit
attribute [local go_sem ↓] Go.wp_at_zero Go.wp_at_succ

set_option maxHeartbeats 2000000 in
set_option maxRecDepth 20000 in
theorem calc_modulo32 (Ls : Nat → Nat → Int) (M : Nat → Int) (n : Int) (b m : Nat) (cap : Array Value) (w : World) (hm0 : 1 ≤ m) (hm : m ≤ 2) (hn : n ≤ 4294967296)
    (hL : ∀ s, s < m → ∀ i, i < 256 → 0 ≤ Ls s i ∧ Ls s i < n) (hr : ∀ s, s < m → PRow .i64 w b (256 * s) (Ls s)) (hM0 : ∀ i, i < 256 → 0 ≤ M i ∧ M i < 4294967296)
    (hM : ∀ W c, w.grownBy W none → (∀ s, s < m → PRow .u32 W c (256 * s) (Ls s)) → Calls Try.prog 30 (#[.slice (some ⟨c, 0, none⟩) m m] ++ cap) W fun e W' => e = .returned (.agg (polyA .u32 M)) ∧ W.grownBy W' none) :
    Calls Try.prog 29 #[.int .i64 n, .func (.func 30) #[] cap, .slice (some ⟨b, 0, none⟩) m m] w fun e w' => e = .returned (.tuple #[.agg (polyA .i64 M), .nilIface]) ∧ w.grownBy w' none := by
  have HM : Hid (∀ W c, w.grownBy W none → (∀ s, s < m → PRow .u32 W c (256 * s) (Ls s)) → Calls Try.prog 30 (#[.slice (some ⟨c, 0, none⟩) m m] ++ cap) W fun e W' => e = .returned (.agg (polyA .u32 M)) ∧ W.grownBy W' none) := hM
  have H0 : Hid (∀ i, i < 256 → 0 ≤ M i ∧ M i < 4294967296) := hM0
  have n1 := new_alloc .i64 w (fun _ => 0) 24
  rw [← Try.z24] at n1
  have HN : Hid (∀ W, w.grownBy W none → Calls Try.prog 45 #[.int .i64 n, .slice (some ⟨b, 0, none⟩) m m] W fun e w' => e = .returned (.tuple #[.slice (some ⟨W.heap.size, 0, none⟩) m m, .nilIface]) ∧ W.grownBy w' none ∧ ∀ s, s < m → PRow .u32 w' W.heap.size (256 * s) (Ls s)) := fun W hg => narrowed32_ok Ls n b m m W (by omega) hn hL (fun s hs => (hr s hs).new hg)
  clear hM hL hr hM0
  go_enter Try.func29, Try.ntmps29
  go_wp2_with (first | (go_at_call 45; refine (HN.out _ n1.g).mono ?_; rintro e w2 ⟨rfl, g2, r2⟩; rw [n1.s] at r2 ⊢; have hg := grownBy_trans n1.g g2; have hA := n1.r.new g2) | (go_at_call 30; refine (HM.out _ (w.heap.size + 1) hg r2).mono ?_; rintro e w3 ⟨rfl, g3⟩) | (go_at_call 46; refine (wide32_any M _ H0.out).mono ?_; rintro e w4 ⟨rfl, g4⟩) | (refine wpL_store rfl .i64 24 _ _ rfl w.heap.size 0 rfl _ rfl .i64 _ ((hA.new g3).new g4) Try.sP ?_; intro w5 p5))
  refine bodyPost_ret (res2 rfl .i64 _ w5 w.heap.size M _ rfl rfl p5.r ⟨_, Try.uP⟩ Try.sP) rfl ⟨rfl, grown_new (grownBy_trans (grownBy_trans hg g3) g4) p5.g (by omega)⟩
end Go.Proofs.Ytkijpphmiogbbaa
