import Derived.Test.YtkijpphmiogbbaaGreatDoorK17
import Derived.Test.YtkijpphmiogbbaaGreatDoorK21
import Derived.Test.YtkijpphmiogbbaaGreatDoorK23
import Derived.Test.YtkijpphmiogbbaaGreatDoorK25
import Derived.Test.YtkijpphmiogbbaaGreatDoorK18
namespace Go.Proofs.YtkijpphmiogbbaaGreatDoor
open Go.RowKit
attribute [local go_sem ↓] Go.wp_at_zero Go.wp_at_succ

set_option maxHeartbeats 2000000 in
set_option maxRecDepth 20000 in
theorem calc_modulo16 (Ls : Nat → Nat → Int) (M : Nat → Int) (n : Int) (b m : Nat) (cap : Array Value) (w : World) (hm0 : 1 ≤ m) (hm : m ≤ 2) (hn : n ≤ 65536)
    (hL : ∀ s, s < m → ∀ i, i < 256 → 0 ≤ Ls s i ∧ Ls s i < n) (hr : ∀ s, s < m → PRow .i64 w b (256 * s) (Ls s)) (hM0 : ∀ i, i < 256 → 0 ≤ M i ∧ M i < 65536)
    (hM : ∀ W c, w.grownBy W none → (∀ s, s < m → PRow .u16 W c (256 * s) (Ls s)) → Calls Tryz.prog 188 (#[.slice (some ⟨c, 0, none⟩) m m] ++ cap) W fun e W' => e = .returned (.agg (polyA .u16 M)) ∧ W.grownBy W' none) :
    Calls Tryz.prog 109 #[.int .i64 n, .func (.func 188) #[] cap, .slice (some ⟨b, 0, none⟩) m m] w fun e w' => e = .returned (.tuple #[.agg (polyA .i64 M), .nilIface]) ∧ w.grownBy w' none := by
  have HM : Hid (∀ W c, w.grownBy W none → (∀ s, s < m → PRow .u16 W c (256 * s) (Ls s)) → Calls Tryz.prog 188 (#[.slice (some ⟨c, 0, none⟩) m m] ++ cap) W fun e W' => e = .returned (.agg (polyA .u16 M)) ∧ W.grownBy W' none) := hM
  have H0 : Hid (∀ i, i < 256 → 0 ≤ M i ∧ M i < 65536) := hM0
  have n1 := new_alloc .i64 w (fun _ => 0) 71
  rw [← Tryz.z24] at n1
  have HN : Hid (∀ W, w.grownBy W none → Calls Tryz.prog 198 #[.int .i64 n, .slice (some ⟨b, 0, none⟩) m m] W fun e w' => e = .returned (.tuple #[.slice (some ⟨W.heap.size, 0, none⟩) m m, .nilIface]) ∧ W.grownBy w' none ∧ ∀ s, s < m → PRow .u16 w' W.heap.size (256 * s) (Ls s)) := fun W hg => narrowed16_ok Ls n b m m W (by omega) hn hL (fun s hs => (hr s hs).new hg)
  clear hM hL hr hM0
  go_enter Tryz.func109, Tryz.ntmps109
  go_wp2_with (first | (go_at_call 198; refine (HN.out _ n1.g).mono ?_; rintro e w2 ⟨rfl, g2, r2⟩; rw [n1.s] at r2 ⊢; have hg := grownBy_trans n1.g g2; have hA := n1.r.new g2) | (go_at_call 188; refine (HM.out _ (w.heap.size + 1) hg r2).mono ?_; rintro e w3 ⟨rfl, g3⟩) | (go_at_call 199; refine (wide16_any M _ H0.out).mono ?_; rintro e w4 ⟨rfl, g4⟩) | (refine wpL_store rfl .i64 71 _ _ rfl w.heap.size 0 rfl _ rfl .i64 _ ((hA.new g3).new g4) Tryz.sP ?_; intro w5 p5))
  refine bodyPost_ret (res2 rfl .i64 _ w5 w.heap.size M _ rfl rfl p5.r ⟨_, Tryz.uP⟩ Tryz.sP) rfl ⟨rfl, grown_new (grownBy_trans (grownBy_trans hg g3) g4) p5.g (by omega)⟩
end Go.Proofs.YtkijpphmiogbbaaGreatDoor

namespace Go.Proofs.YtkijpphmiogbbaaGreatDoor
open Go.RowKit
attribute [local go_sem ↓] Go.wp_at_zero Go.wp_at_succ

theorem mk32 (m : Nat) (hm : m ≤ 8) (W : World) : (Instr.makeSlice 181 (.int .i64 (m : Int)) (.int .i64 (m : Int))).run Tryz.prog W = .ok (.slice (some ⟨W.heap.size, 0, none⟩) m m) (W.alloc (.cells (madeCells (polyA .u32 (fun _ => 0)) (m * 256)) 166)) := by
  have hinfo : (Tryz.prog.info? 166).map (fun i => (i.zero, i.size, i.bytes)) = some (some (.agg (polyA .u32 (fun _ => 0))), 256, 1024) := by kernel_rfl
  obtain ⟨i0, hi, hz0, hz1, hz2⟩ := info_parts hinfo
  have h := run_make (P := Tryz.prog) W 181 166 i0 _ (by kernel_rfl) hi hz0 .i64 .i64 m m (by omega) (by omega) (by rw [hz2]; omega) (by omega)
  rw [hz1] at h
  simpa [Value.cells] using h
theorem ixPolysc (b m cp k : Nat) (hk : k < m) (W : World) : (Instr.indexAt 60 (.slice (some ⟨b, 0, none⟩) m cp) (.int .i64 (k : Int))).run Tryz.prog W = .ok (.pointer (some ⟨b, 256 * k, none⟩)) W :=
  run_indexPolys 60 b m cp k hk (by kernel_rfl) (fun W => by kernel_rfl) W
theorem ixPolys32 (b m k : Nat) (hk : k < m) (W : World) : (Instr.indexAt 181 (.slice (some ⟨b, 0, none⟩) m m) (.int .i64 (k : Int))).run Tryz.prog W = .ok (.pointer (some ⟨b, 256 * k, none⟩)) W :=
  run_indexPolys 181 b m m k hk (by kernel_rfl) (fun W => by kernel_rfl) W

set_option maxHeartbeats 2000000 in
set_option maxRecDepth 20000 in
theorem narrowed32_ok (Ls : Nat → Nat → Int) (n : Int) (b m cp : Nat) (w : World) (hm : m ≤ 8) (hn : n ≤ 4294967296)
    (hL : ∀ s, s < m → ∀ i, i < 256 → 0 ≤ Ls s i ∧ Ls s i < n) (hr : ∀ s, s < m → PRow .i64 w b (256 * s) (Ls s)) :
    Calls Tryz.prog 133 #[.int .i64 n, .slice (some ⟨b, 0, none⟩) m cp] w fun e w' => e = .returned (.tuple #[.slice (some ⟨w.heap.size, 0, none⟩) m m, .nilIface]) ∧ w.grownBy w' none ∧ ∀ s, s < m → PRow .u32 w' w.heap.size (256 * s) (Ls s) := by
  have HL : Hid (∀ s, s < m → ∀ i, i < 256 → 0 ≤ Ls s i ∧ Ls s i < n) := hL
  have HR : Hid (∀ s, s < m → PRow .i64 w b (256 * s) (Ls s)) := hr
  clear hL hr
  have hmk := mk32 m hm
  have m2 := made_rows .u32 w m 166
  have g2 := World.grownBy_alloc w (.cells (madeCells (polyA .u32 (fun _ => 0)) (m * 256)) 166) none
  go_enter Tryz.func133, Tryz.ntmps133
  go_wp2
  generalize w.alloc (.cells (madeCells (polyA .u32 (fun _ => 0)) (m * 256)) 166) = w2 at *
  obtain ⟨B, hB⟩ : ∃ B, B = w.heap.size := ⟨_, rfl⟩
  rw [← hB] at m2 ⊢
  have hN : Nar .u32 w2 B m 0 Ls := ⟨fun s hs => absurd hs (by omega), fun s _ hs => m2 s hs⟩
  have hg : w.grownBy w2 none := g2
  clear g2 m2 hmk
  have hB' : w.heap.size ≤ B := by omega
  have HB : Hid (B = w.heap.size) := hB
  clear hB
  go_loopw [7, 8, 9, 15] (fun _ _ _ i wr => ∃ k : Nat, k ≤ m ∧ i = .int .i64 k ∧ w.grownBy wr none ∧ Nar .u32 wr B m k Ls) (fun _ _ _ i _ => m - (intOf i).toNat)
  case atStart => exact ⟨0, by omega, rfl, hg, hN⟩
  case round =>
    clear hN hg
    obtain ⟨k, hk, rfl, hg, hN⟩ := hrel
    by_cases hlt : k < m
    · have b0 : (0 : Int) ≤ (k : Int) := by omega
      have b1 : (k : Int) < (m : Int) := by omega
      have ix := fun W => ixPolysc b m cp k hlt W
      have ix2 := fun W => ixPolys32 B m k hlt W
      have hb := (HR.out k hlt).new hg
      have n1 := new_alloc .i64 wr (fun _ => 0) 71
      rw [← Tryz.z24] at n1
      have hNw : B < wr.heap.size := (hN.left k (Nat.le_refl _) hlt).lt
      go_wp2_with (first | (refine wpL_load rfl .i64 71 _ rfl b (256 * k) rfl _ hb ⟨_, Tryz.uP⟩ Tryz.sP ?_) | (refine wpL_store rfl .i64 71 _ _ rfl wr.heap.size 0 rfl _ rfl .i64 _ n1.r Tryz.sP ?_; intro w3 p3) | (refine wpL_load rfl .i64 71 _ rfl wr.heap.size 0 rfl _ p3.r ⟨_, Tryz.uP⟩ Tryz.sP ?_) | (go_at_call 122; refine (narrow32_ok (Ls k) n _ (HL.out k hlt) hn).mono ?_; rintro e w4 ⟨rfl, g4⟩) | (refine wpL_store rfl .u32 166 _ _ rfl B (256 * k) rfl _ rfl .u32 _ ((((hN.left k (Nat.le_refl _) hlt).new n1.g).far p3.g (by simp; omega)).new g4) Tryz.sQ32 ?_; intro w5 p5))
      go_roundw
      case rel =>
        have hN4 := ((hN.new n1.g).far p3.g (by simp; omega)).new g4
        have hg4 := grownBy_trans (grown_new (grownBy_trans hg n1.g) p3.g (by omega)) g4
        exact ⟨k + 1, by omega, by go_num, grown_new hg4 p5.g (by omega), hN4.step p5⟩
      case measure => simp [intOf]; omega
    · have hk6 : m = k := by omega
      subst hk6
      go_wp2
      have hBe := HB.out
      subst hBe
      go_ret2
      exact ⟨rfl, hg, fun s hs => hN.done s hs⟩
end Go.Proofs.YtkijpphmiogbbaaGreatDoor

namespace Go.Proofs.YtkijpphmiogbbaaGreatDoor
open Go.RowKit
attribute [local go_sem ↓] Go.wp_at_zero Go.wp_at_succ

set_option maxHeartbeats 2000000 in
set_option maxRecDepth 20000 in
theorem calc_modulo32 (Ls : Nat → Nat → Int) (M : Nat → Int) (n : Int) (b m : Nat) (cap : Array Value) (w : World) (hm0 : 1 ≤ m) (hm : m ≤ 2) (hn : n ≤ 4294967296)
    (hL : ∀ s, s < m → ∀ i, i < 256 → 0 ≤ Ls s i ∧ Ls s i < n) (hr : ∀ s, s < m → PRow .i64 w b (256 * s) (Ls s)) (hM0 : ∀ i, i < 256 → 0 ≤ M i ∧ M i < 4294967296)
    (hM : ∀ W c, w.grownBy W none → (∀ s, s < m → PRow .u32 W c (256 * s) (Ls s)) → Calls Tryz.prog 190 (#[.slice (some ⟨c, 0, none⟩) m m] ++ cap) W fun e W' => e = .returned (.agg (polyA .u32 M)) ∧ W.grownBy W' none) :
    Calls Tryz.prog 135 #[.int .i64 n, .func (.func 190) #[] cap, .slice (some ⟨b, 0, none⟩) m m] w fun e w' => e = .returned (.tuple #[.agg (polyA .i64 M), .nilIface]) ∧ w.grownBy w' none := by
  have HM : Hid (∀ W c, w.grownBy W none → (∀ s, s < m → PRow .u32 W c (256 * s) (Ls s)) → Calls Tryz.prog 190 (#[.slice (some ⟨c, 0, none⟩) m m] ++ cap) W fun e W' => e = .returned (.agg (polyA .u32 M)) ∧ W.grownBy W' none) := hM
  have H0 : Hid (∀ i, i < 256 → 0 ≤ M i ∧ M i < 4294967296) := hM0
  have n1 := new_alloc .i64 w (fun _ => 0) 71
  rw [← Tryz.z24] at n1
  have HN : Hid (∀ W, w.grownBy W none → Calls Tryz.prog 133 #[.int .i64 n, .slice (some ⟨b, 0, none⟩) m m] W fun e w' => e = .returned (.tuple #[.slice (some ⟨W.heap.size, 0, none⟩) m m, .nilIface]) ∧ W.grownBy w' none ∧ ∀ s, s < m → PRow .u32 w' W.heap.size (256 * s) (Ls s)) := fun W hg => narrowed32_ok Ls n b m m W (by omega) hn hL (fun s hs => (hr s hs).new hg)
  clear hM hL hr hM0
  go_enter Tryz.func135, Tryz.ntmps135
  go_wp2_with (first | (go_at_call 133; refine (HN.out _ n1.g).mono ?_; rintro e w2 ⟨rfl, g2, r2⟩; rw [n1.s] at r2 ⊢; have hg := grownBy_trans n1.g g2; have hA := n1.r.new g2) | (go_at_call 190; refine (HM.out _ (w.heap.size + 1) hg r2).mono ?_; rintro e w3 ⟨rfl, g3⟩) | (go_at_call 125; refine (wide32_any M _ H0.out).mono ?_; rintro e w4 ⟨rfl, g4⟩) | (refine wpL_store rfl .i64 71 _ _ rfl w.heap.size 0 rfl _ rfl .i64 _ ((hA.new g3).new g4) Tryz.sP ?_; intro w5 p5))
  refine bodyPost_ret (res2 rfl .i64 _ w5 w.heap.size M _ rfl rfl p5.r ⟨_, Tryz.uP⟩ Tryz.sP) rfl ⟨rfl, grown_new (grownBy_trans (grownBy_trans hg g3) g4) p5.g (by omega)⟩
end Go.Proofs.YtkijpphmiogbbaaGreatDoor

namespace Go.Proofs.YtkijpphmiogbbaaGreatDoor
open Go.RowKit
attribute [local go_sem ↓] Go.wp_at_zero Go.wp_at_succ

theorem fns_boxed (w : World) (u v : Value) (A B T : TypeId) : w.grownBy (((w.alloc (.cells #[u] A)).alloc (.cells #[v] B)).alloc (.cells (polyA .i64 (fun _ => 0)) T)) none ∧
    (((w.alloc (.cells #[u] A)).alloc (.cells #[v] B)).alloc (.cells (polyA .i64 (fun _ => 0)) T)).cell? ⟨w.heap.size, 0, none⟩ = some u ∧
    (((w.alloc (.cells #[u] A)).alloc (.cells #[v] B)).alloc (.cells (polyA .i64 (fun _ => 0)) T)).cell? ⟨w.heap.size + 1, 0, none⟩ = some v ∧
    PRow .i64 (((w.alloc (.cells #[u] A)).alloc (.cells #[v] B)).alloc (.cells (polyA .i64 (fun _ => 0)) T)) (w.heap.size + 1 + 1) 0 (fun _ => 0) := by
  have g1 := World.grownBy_alloc w (.cells #[u] A) none
  have g2 := World.grownBy_alloc (w.alloc (.cells #[u] A)) (.cells #[v] B) none
  have n3 := new_alloc .i64 ((w.alloc (.cells #[u] A)).alloc (.cells #[v] B)) (fun _ => 0) T
  have c1 : (w.alloc (.cells #[u] A)).cell? ⟨w.heap.size, 0, none⟩ = some u := by rw [World.cell?_alloc_new]; rfl
  have c2 : ((w.alloc (.cells #[u] A)).alloc (.cells #[v] B)).cell? ⟨w.heap.size + 1, 0, none⟩ = some v := by
    have : ((w.alloc (.cells #[u] A)).alloc (.cells #[v] B)).cell? ⟨(w.alloc (.cells #[u] A)).heap.size, 0, none⟩ = some v := by rw [World.cell?_alloc_new]; rfl
    rw [World.size_alloc] at this
    exact this
  refine ⟨grownBy_trans g1 (grownBy_trans g2 n3.g), n3.g.cell (g2.cell c1 (by simp)) (by simp), n3.g.cell c2 (by simp), ?_⟩
  have := n3.r
  rw [World.size_alloc, World.size_alloc] at this
  exact this

set_option maxHeartbeats 1000000 in
set_option maxRecDepth 20000 in
theorem modulo16_forward (b : Nat) (L : Nat → Int) (w : World) (hr : PRow .i64 w b 0 L) (hL : ∀ i, i < 256 → 0 ≤ L i ∧ L i < 3329) :
    Calls Tryz.prog 102 #[.int .i64 3329, .func (.func 103) #[] #[], .func (.func 104) #[] #[], .slice (some ⟨b, 0, none⟩) 1 1] w fun e w' => e = .returned (.tuple #[.agg (polyA .i64 (fwdN 3329 zetS 7 L)), .nilIface]) ∧ w.grownBy w' none := by
  have t1 := fns_boxed w (.func (.func 103) #[] #[]) (.func (.func 104) #[] #[]) 231 232 71
  rw [← Tryz.z24] at t1
  obtain ⟨g1, c1, c2, z1⟩ := t1
  have hr1 := hr.new g1
  go_enter Tryz.func102, Tryz.ntmps102
  go_wp2_with fail
  generalize ((w.alloc (.cells #[.func (.func 103) #[] #[]] 231)).alloc (.cells #[.func (.func 104) #[] #[]] 232)).alloc (.cells Tryz.zeroCells71 71) = w1 at *
  have HM : ∀ W c, w1.grownBy W none → (∀ s, s < 1 → PRow .u16 W c (256 * s) ((fun _ => L) s)) → Calls Tryz.prog 188 (#[.slice (some ⟨c, 0, none⟩) 1 1] ++ #[.pointer (some ⟨w.heap.size, 0, none⟩)]) W fun e W' => e = .returned (.agg (polyA .u16 (fwdN 3329 zetS 7 L))) ∧ W.grownBy W' none :=
    fun W c hg hrr => modC16_forward w.heap.size c L W (hg.cell c1 (by simp)) (hrr 0 (by omega)) hL
  have HR : ∀ s, s < 1 → PRow .i64 w1 b (256 * s) ((fun _ => L) s) := fun s hs => by
    obtain rfl : s = 0 := by omega
    exact hr1
  have H0 : ∀ i, i < 256 → 0 ≤ (fwdN 3329 zetS 7 L) i ∧ (fwdN 3329 zetS 7 L) i < 65536 := fun i hi => by
    have := fwdN_range 3329 (by omega) zetS L hL 7 i hi
    exact ⟨this.1, Int.lt_trans this.2 (by decide)⟩
  refine (calc_modulo16 (fun _ => L) (fwdN 3329 zetS 7 L) 3329 b 1 #[.pointer (some ⟨w.heap.size, 0, none⟩)] w1 (by omega) (by omega) (by omega) (fun _ _ => hL) HR H0 HM).mono ?_
  rintro e w5 ⟨rfl, g5⟩
  go_wp2_with (first | (refine wpL_store rfl .i64 71 _ _ rfl (w.heap.size + 1 + 1) 0 rfl _ rfl .i64 _ (z1.new g5) Tryz.sP ?_; intro w6 p6))
  refine bodyPost_ret (res2 rfl .i64 _ w6 (w.heap.size + 1 + 1) _ _ rfl rfl p6.r ⟨_, Tryz.uP⟩ Tryz.sP) rfl ⟨rfl, grown_new (grownBy_trans g1 g5) p6.g (by omega)⟩
set_option maxHeartbeats 1000000 in
set_option maxRecDepth 20000 in
theorem call16_forward (L : Nat → Int) (w : World) (hL : ∀ i, i < 256 → 0 ≤ L i ∧ L i < 3329) :
    Calls Tryz.prog 53 #[.int .i64 3329, .agg (polyA .i64 L)] w fun e w' => e = .returned (.tuple #[.agg (polyA .i64 (fwdN 3329 zetS 7 L)), .nilIface]) ∧ w.grownBy w' none := by
  have n1 := new_alloc .i64 w L 71
  have n2 := new_alloc .i64 (w.alloc (.cells (polyA .i64 L) 71)) (fun _ => 0) 71
  rw [← Tryz.z24] at n2
  have z2 := n2.r
  rw [n1.s] at z2
  have s2 : ((w.alloc (.cells (polyA .i64 L) 71)).alloc (.cells Tryz.zeroCells71 71)).heap.size = w.heap.size + 1 + 1 := by rw [World.size_alloc, World.size_alloc]
  go_enter Tryz.func53, Tryz.ntmps53
  go_wp2_with (first | (refine wpL_load rfl .i64 71 _ rfl w.heap.size 0 rfl _ (n1.r.new n2.g) ⟨_, Tryz.uP⟩ Tryz.sP ?_) | (refine wpL_bs1 rfl _ rfl L rfl ?_; intro w3 n3))
  have r3 := n3.r
  rw [s2] at r3
  refine (modulo16_forward (w.heap.size + 1 + 1) L w3 r3 hL).mono ?_
  rintro e w5 ⟨rfl, g5⟩
  go_wp2_with (first | (refine wpL_store rfl .i64 71 _ _ rfl (w.heap.size + 1) 0 rfl _ rfl .i64 _ ((z2.new n3.g).new g5) Tryz.sP ?_; intro w6 p6))
  refine bodyPost_ret (res2 rfl .i64 _ w6 (w.heap.size + 1) _ _ rfl rfl p6.r ⟨_, Tryz.uP⟩ Tryz.sP) rfl ⟨rfl, grown_new (grownBy_trans (grownBy_trans n1.g (grownBy_trans n2.g n3.g)) g5) p6.g (by omega)⟩

set_option maxHeartbeats 1000000 in
set_option maxRecDepth 20000 in
theorem modulo16_inverse (b : Nat) (L : Nat → Int) (w : World) (hr : PRow .i64 w b 0 L) (hL : ∀ i, i < 256 → 0 ≤ L i ∧ L i < 3329) :
    Calls Tryz.prog 102 #[.int .i64 3329, .func (.func 105) #[] #[], .func (.func 106) #[] #[], .slice (some ⟨b, 0, none⟩) 1 1] w fun e w' => e = .returned (.tuple #[.agg (polyA .i64 (fun i => invN 3329 zetS 7 L i * 3303 % 3329)), .nilIface]) ∧ w.grownBy w' none := by
  have t1 := fns_boxed w (.func (.func 105) #[] #[]) (.func (.func 106) #[] #[]) 231 232 71
  rw [← Tryz.z24] at t1
  obtain ⟨g1, c1, c2, z1⟩ := t1
  have hr1 := hr.new g1
  go_enter Tryz.func102, Tryz.ntmps102
  go_wp2_with fail
  generalize ((w.alloc (.cells #[.func (.func 105) #[] #[]] 231)).alloc (.cells #[.func (.func 106) #[] #[]] 232)).alloc (.cells Tryz.zeroCells71 71) = w1 at *
  have HM : ∀ W c, w1.grownBy W none → (∀ s, s < 1 → PRow .u16 W c (256 * s) ((fun _ => L) s)) → Calls Tryz.prog 188 (#[.slice (some ⟨c, 0, none⟩) 1 1] ++ #[.pointer (some ⟨w.heap.size, 0, none⟩)]) W fun e W' => e = .returned (.agg (polyA .u16 (fun i => invN 3329 zetS 7 L i * 3303 % 3329))) ∧ W.grownBy W' none :=
    fun W c hg hrr => modC16_inverse w.heap.size c L W (hg.cell c1 (by simp)) (hrr 0 (by omega)) hL
  have HR : ∀ s, s < 1 → PRow .i64 w1 b (256 * s) ((fun _ => L) s) := fun s hs => by
    obtain rfl : s = 0 := by omega
    exact hr1
  have H0 : ∀ i, i < 256 → 0 ≤ (fun i => invN 3329 zetS 7 L i * 3303 % 3329) i ∧ (fun i => invN 3329 zetS 7 L i * 3303 % 3329) i < 65536 := fun i hi => by
    have := (⟨Int.emod_nonneg (invN 3329 zetS 7 L i * 3303) (by omega), Int.emod_lt_of_pos (invN 3329 zetS 7 L i * 3303) (by omega)⟩ : 0 ≤ invN 3329 zetS 7 L i * 3303 % 3329 ∧ invN 3329 zetS 7 L i * 3303 % 3329 < 3329)
    exact ⟨this.1, Int.lt_trans this.2 (by decide)⟩
  refine (calc_modulo16 (fun _ => L) (fun i => invN 3329 zetS 7 L i * 3303 % 3329) 3329 b 1 #[.pointer (some ⟨w.heap.size, 0, none⟩)] w1 (by omega) (by omega) (by omega) (fun _ _ => hL) HR H0 HM).mono ?_
  rintro e w5 ⟨rfl, g5⟩
  go_wp2_with (first | (refine wpL_store rfl .i64 71 _ _ rfl (w.heap.size + 1 + 1) 0 rfl _ rfl .i64 _ (z1.new g5) Tryz.sP ?_; intro w6 p6))
  refine bodyPost_ret (res2 rfl .i64 _ w6 (w.heap.size + 1 + 1) _ _ rfl rfl p6.r ⟨_, Tryz.uP⟩ Tryz.sP) rfl ⟨rfl, grown_new (grownBy_trans g1 g5) p6.g (by omega)⟩
set_option maxHeartbeats 1000000 in
set_option maxRecDepth 20000 in
theorem call16_inverse (L : Nat → Int) (w : World) (hL : ∀ i, i < 256 → 0 ≤ L i ∧ L i < 3329) :
    Calls Tryz.prog 54 #[.int .i64 3329, .agg (polyA .i64 L)] w fun e w' => e = .returned (.tuple #[.agg (polyA .i64 (fun i => invN 3329 zetS 7 L i * 3303 % 3329)), .nilIface]) ∧ w.grownBy w' none := by
  have n1 := new_alloc .i64 w L 71
  have n2 := new_alloc .i64 (w.alloc (.cells (polyA .i64 L) 71)) (fun _ => 0) 71
  rw [← Tryz.z24] at n2
  have z2 := n2.r
  rw [n1.s] at z2
  have s2 : ((w.alloc (.cells (polyA .i64 L) 71)).alloc (.cells Tryz.zeroCells71 71)).heap.size = w.heap.size + 1 + 1 := by rw [World.size_alloc, World.size_alloc]
  go_enter Tryz.func54, Tryz.ntmps54
  go_wp2_with (first | (refine wpL_load rfl .i64 71 _ rfl w.heap.size 0 rfl _ (n1.r.new n2.g) ⟨_, Tryz.uP⟩ Tryz.sP ?_) | (refine wpL_bs1 rfl _ rfl L rfl ?_; intro w3 n3))
  have r3 := n3.r
  rw [s2] at r3
  refine (modulo16_inverse (w.heap.size + 1 + 1) L w3 r3 hL).mono ?_
  rintro e w5 ⟨rfl, g5⟩
  go_wp2_with (first | (refine wpL_store rfl .i64 71 _ _ rfl (w.heap.size + 1) 0 rfl _ rfl .i64 _ ((z2.new n3.g).new g5) Tryz.sP ?_; intro w6 p6))
  refine bodyPost_ret (res2 rfl .i64 _ w6 (w.heap.size + 1) _ _ rfl rfl p6.r ⟨_, Tryz.uP⟩ Tryz.sP) rfl ⟨rfl, grown_new (grownBy_trans (grownBy_trans n1.g (grownBy_trans n2.g n3.g)) g5) p6.g (by omega)⟩

set_option maxHeartbeats 1000000 in
set_option maxRecDepth 20000 in
theorem modulo32_forward (b : Nat) (L : Nat → Int) (w : World) (hr : PRow .i64 w b 0 L) (hL : ∀ i, i < 256 → 0 ≤ L i ∧ L i < 8380417) :
    Calls Tryz.prog 102 #[.int .i64 8380417, .func (.func 103) #[] #[], .func (.func 104) #[] #[], .slice (some ⟨b, 0, none⟩) 1 1] w fun e w' => e = .returned (.tuple #[.agg (polyA .i64 (fwdN 8380417 zetG 8 L)), .nilIface]) ∧ w.grownBy w' none := by
  have t1 := fns_boxed w (.func (.func 103) #[] #[]) (.func (.func 104) #[] #[]) 231 232 71
  rw [← Tryz.z24] at t1
  obtain ⟨g1, c1, c2, z1⟩ := t1
  have hr1 := hr.new g1
  go_enter Tryz.func102, Tryz.ntmps102
  go_wp2_with fail
  generalize ((w.alloc (.cells #[.func (.func 103) #[] #[]] 231)).alloc (.cells #[.func (.func 104) #[] #[]] 232)).alloc (.cells Tryz.zeroCells71 71) = w1 at *
  have HM : ∀ W c, w1.grownBy W none → (∀ s, s < 1 → PRow .u32 W c (256 * s) ((fun _ => L) s)) → Calls Tryz.prog 190 (#[.slice (some ⟨c, 0, none⟩) 1 1] ++ #[.pointer (some ⟨(w.heap.size + 1), 0, none⟩)]) W fun e W' => e = .returned (.agg (polyA .u32 (fwdN 8380417 zetG 8 L))) ∧ W.grownBy W' none :=
    fun W c hg hrr => modC32_forward (w.heap.size + 1) c L W (hg.cell c2 (by simp)) (hrr 0 (by omega)) hL
  have HR : ∀ s, s < 1 → PRow .i64 w1 b (256 * s) ((fun _ => L) s) := fun s hs => by
    obtain rfl : s = 0 := by omega
    exact hr1
  have H0 : ∀ i, i < 256 → 0 ≤ (fwdN 8380417 zetG 8 L) i ∧ (fwdN 8380417 zetG 8 L) i < 4294967296 := fun i hi => by
    have := fwdN_range 8380417 (by omega) zetG L hL 8 i hi
    exact ⟨this.1, Int.lt_trans this.2 (by decide)⟩
  refine (calc_modulo32 (fun _ => L) (fwdN 8380417 zetG 8 L) 8380417 b 1 #[.pointer (some ⟨(w.heap.size + 1), 0, none⟩)] w1 (by omega) (by omega) (by omega) (fun _ _ => hL) HR H0 HM).mono ?_
  rintro e w5 ⟨rfl, g5⟩
  go_wp2_with (first | (refine wpL_store rfl .i64 71 _ _ rfl (w.heap.size + 1 + 1) 0 rfl _ rfl .i64 _ (z1.new g5) Tryz.sP ?_; intro w6 p6))
  refine bodyPost_ret (res2 rfl .i64 _ w6 (w.heap.size + 1 + 1) _ _ rfl rfl p6.r ⟨_, Tryz.uP⟩ Tryz.sP) rfl ⟨rfl, grown_new (grownBy_trans g1 g5) p6.g (by omega)⟩
set_option maxHeartbeats 1000000 in
set_option maxRecDepth 20000 in
theorem call32_forward (L : Nat → Int) (w : World) (hL : ∀ i, i < 256 → 0 ≤ L i ∧ L i < 8380417) :
    Calls Tryz.prog 53 #[.int .i64 8380417, .agg (polyA .i64 L)] w fun e w' => e = .returned (.tuple #[.agg (polyA .i64 (fwdN 8380417 zetG 8 L)), .nilIface]) ∧ w.grownBy w' none := by
  have n1 := new_alloc .i64 w L 71
  have n2 := new_alloc .i64 (w.alloc (.cells (polyA .i64 L) 71)) (fun _ => 0) 71
  rw [← Tryz.z24] at n2
  have z2 := n2.r
  rw [n1.s] at z2
  have s2 : ((w.alloc (.cells (polyA .i64 L) 71)).alloc (.cells Tryz.zeroCells71 71)).heap.size = w.heap.size + 1 + 1 := by rw [World.size_alloc, World.size_alloc]
  go_enter Tryz.func53, Tryz.ntmps53
  go_wp2_with (first | (refine wpL_load rfl .i64 71 _ rfl w.heap.size 0 rfl _ (n1.r.new n2.g) ⟨_, Tryz.uP⟩ Tryz.sP ?_) | (refine wpL_bs1 rfl _ rfl L rfl ?_; intro w3 n3))
  have r3 := n3.r
  rw [s2] at r3
  refine (modulo32_forward (w.heap.size + 1 + 1) L w3 r3 hL).mono ?_
  rintro e w5 ⟨rfl, g5⟩
  go_wp2_with (first | (refine wpL_store rfl .i64 71 _ _ rfl (w.heap.size + 1) 0 rfl _ rfl .i64 _ ((z2.new n3.g).new g5) Tryz.sP ?_; intro w6 p6))
  refine bodyPost_ret (res2 rfl .i64 _ w6 (w.heap.size + 1) _ _ rfl rfl p6.r ⟨_, Tryz.uP⟩ Tryz.sP) rfl ⟨rfl, grown_new (grownBy_trans (grownBy_trans n1.g (grownBy_trans n2.g n3.g)) g5) p6.g (by omega)⟩

set_option maxHeartbeats 1000000 in
set_option maxRecDepth 20000 in
theorem modulo32_inverse (b : Nat) (L : Nat → Int) (w : World) (hr : PRow .i64 w b 0 L) (hL : ∀ i, i < 256 → 0 ≤ L i ∧ L i < 8380417) :
    Calls Tryz.prog 102 #[.int .i64 8380417, .func (.func 105) #[] #[], .func (.func 106) #[] #[], .slice (some ⟨b, 0, none⟩) 1 1] w fun e w' => e = .returned (.tuple #[.agg (polyA .i64 (fun i => invN 8380417 zetG 8 L i * 8347681 % 8380417)), .nilIface]) ∧ w.grownBy w' none := by
  have t1 := fns_boxed w (.func (.func 105) #[] #[]) (.func (.func 106) #[] #[]) 231 232 71
  rw [← Tryz.z24] at t1
  obtain ⟨g1, c1, c2, z1⟩ := t1
  have hr1 := hr.new g1
  go_enter Tryz.func102, Tryz.ntmps102
  go_wp2_with fail
  generalize ((w.alloc (.cells #[.func (.func 105) #[] #[]] 231)).alloc (.cells #[.func (.func 106) #[] #[]] 232)).alloc (.cells Tryz.zeroCells71 71) = w1 at *
  have HM : ∀ W c, w1.grownBy W none → (∀ s, s < 1 → PRow .u32 W c (256 * s) ((fun _ => L) s)) → Calls Tryz.prog 190 (#[.slice (some ⟨c, 0, none⟩) 1 1] ++ #[.pointer (some ⟨(w.heap.size + 1), 0, none⟩)]) W fun e W' => e = .returned (.agg (polyA .u32 (fun i => invN 8380417 zetG 8 L i * 8347681 % 8380417))) ∧ W.grownBy W' none :=
    fun W c hg hrr => modC32_inverse (w.heap.size + 1) c L W (hg.cell c2 (by simp)) (hrr 0 (by omega)) hL
  have HR : ∀ s, s < 1 → PRow .i64 w1 b (256 * s) ((fun _ => L) s) := fun s hs => by
    obtain rfl : s = 0 := by omega
    exact hr1
  have H0 : ∀ i, i < 256 → 0 ≤ (fun i => invN 8380417 zetG 8 L i * 8347681 % 8380417) i ∧ (fun i => invN 8380417 zetG 8 L i * 8347681 % 8380417) i < 4294967296 := fun i hi => by
    have := (⟨Int.emod_nonneg (invN 8380417 zetG 8 L i * 8347681) (by omega), Int.emod_lt_of_pos (invN 8380417 zetG 8 L i * 8347681) (by omega)⟩ : 0 ≤ invN 8380417 zetG 8 L i * 8347681 % 8380417 ∧ invN 8380417 zetG 8 L i * 8347681 % 8380417 < 8380417)
    exact ⟨this.1, Int.lt_trans this.2 (by decide)⟩
  refine (calc_modulo32 (fun _ => L) (fun i => invN 8380417 zetG 8 L i * 8347681 % 8380417) 8380417 b 1 #[.pointer (some ⟨(w.heap.size + 1), 0, none⟩)] w1 (by omega) (by omega) (by omega) (fun _ _ => hL) HR H0 HM).mono ?_
  rintro e w5 ⟨rfl, g5⟩
  go_wp2_with (first | (refine wpL_store rfl .i64 71 _ _ rfl (w.heap.size + 1 + 1) 0 rfl _ rfl .i64 _ (z1.new g5) Tryz.sP ?_; intro w6 p6))
  refine bodyPost_ret (res2 rfl .i64 _ w6 (w.heap.size + 1 + 1) _ _ rfl rfl p6.r ⟨_, Tryz.uP⟩ Tryz.sP) rfl ⟨rfl, grown_new (grownBy_trans g1 g5) p6.g (by omega)⟩
set_option maxHeartbeats 1000000 in
set_option maxRecDepth 20000 in
theorem call32_inverse (L : Nat → Int) (w : World) (hL : ∀ i, i < 256 → 0 ≤ L i ∧ L i < 8380417) :
    Calls Tryz.prog 54 #[.int .i64 8380417, .agg (polyA .i64 L)] w fun e w' => e = .returned (.tuple #[.agg (polyA .i64 (fun i => invN 8380417 zetG 8 L i * 8347681 % 8380417)), .nilIface]) ∧ w.grownBy w' none := by
  have n1 := new_alloc .i64 w L 71
  have n2 := new_alloc .i64 (w.alloc (.cells (polyA .i64 L) 71)) (fun _ => 0) 71
  rw [← Tryz.z24] at n2
  have z2 := n2.r
  rw [n1.s] at z2
  have s2 : ((w.alloc (.cells (polyA .i64 L) 71)).alloc (.cells Tryz.zeroCells71 71)).heap.size = w.heap.size + 1 + 1 := by rw [World.size_alloc, World.size_alloc]
  go_enter Tryz.func54, Tryz.ntmps54
  go_wp2_with (first | (refine wpL_load rfl .i64 71 _ rfl w.heap.size 0 rfl _ (n1.r.new n2.g) ⟨_, Tryz.uP⟩ Tryz.sP ?_) | (refine wpL_bs1 rfl _ rfl L rfl ?_; intro w3 n3))
  have r3 := n3.r
  rw [s2] at r3
  refine (modulo32_inverse (w.heap.size + 1 + 1) L w3 r3 hL).mono ?_
  rintro e w5 ⟨rfl, g5⟩
  go_wp2_with (first | (refine wpL_store rfl .i64 71 _ _ rfl (w.heap.size + 1) 0 rfl _ rfl .i64 _ ((z2.new n3.g).new g5) Tryz.sP ?_; intro w6 p6))
  refine bodyPost_ret (res2 rfl .i64 _ w6 (w.heap.size + 1) _ _ rfl rfl p6.r ⟨_, Tryz.uP⟩ Tryz.sP) rfl ⟨rfl, grown_new (grownBy_trans (grownBy_trans n1.g (grownBy_trans n2.g n3.g)) g5) p6.g (by omega)⟩
end Go.Proofs.YtkijpphmiogbbaaGreatDoor
