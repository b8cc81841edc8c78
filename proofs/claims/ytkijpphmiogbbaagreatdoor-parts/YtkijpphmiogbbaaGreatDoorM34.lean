import Derived.Test.YtkijpphmiogbbaaGreatDoorM33
import Derived.Test.YtkijpphmiogbbaaGreatDoorM20
import Derived.Test.YtkijpphmiogbbaaGreatDoorM13
namespace Go.Proofs.YtkijpphmiogbbaaGreatDoor
open Go.RowKit
attribute [local go_sem ↓] Go.wp_at_zero Go.wp_at_succ

theorem use_bounds (g h r : Int) (hg : g = 95232 ∨ g = 261888) (hr : 0 ≤ r) (hr' : r < 8380417) : 0 ≤ useI g h r ∧ useI g h r < 44 := by
  have hb := dec_bounds g r hg hr hr'
  unfold useI
  generalize decH g r = H at *
  generalize decL g r = D at *
  rcases hg with rfl | rfl
  · simp only [show (2 : Int) * 95232 = 190464 from rfl, show (8380416 : Int) / 190464 = 44 from rfl] at *
    split
    · omega
    · split <;> omega
  · simp only [show (2 : Int) * 261888 = 523776 from rfl, show (8380416 : Int) / 523776 = 16 from rfl] at *
    split
    · omega
    · split <;> omega
set_option maxHeartbeats 2000000 in
set_option maxRecDepth 20000 in
theorem sUse_any (Hh R : Nat → Int) (g kk o : Int) (w : World) (hg0 : g = 95232 ∨ g = 261888) (hH : ∀ i, i < 256 → 0 ≤ Hh i ∧ Hh i < 4294967296) (hR : ∀ i, i < 256 → 0 ≤ R i ∧ R i < 8380417) :
    Calls Tryz.prog 137 #[.agg #[.int .i64 g, .int .i64 kk, .int .i64 o], .agg (polyA .u32 Hh), .agg (polyA .u32 R)] w fun e w' => e = .returned (.agg (polyA .u32 (fun i => useI g (Hh i) (R i)))) ∧ w.grownBy w' none := by
  have HH : Hid (∀ i, i < 256 → 0 ≤ Hh i ∧ Hh i < 4294967296) := hH
  have HR : Hid (∀ i, i < 256 → 0 ≤ R i ∧ R i < 8380417) := hR
  have HP : Hid (∀ a W, 0 ≤ a → a < 8380417 → Calls Tryz.prog 211 #[.agg #[.int .i64 g, .int .i64 kk, .int .i64 o], .int .i64 a] W fun e w' => e = .returned (.tuple #[.int .i64 (decH g a), .int .i64 (decL g a)]) ∧ W.grownBy w' none) := fun a W h0 h1 => part_any g kk o a W h0 (by omega) (by omega) (by omega)
  have HG0 : Hid (g = 95232 ∨ g = 261888) := hg0
  obtain ⟨m, hm⟩ : ∃ m : Int, m = 8380416 / (2 * g) := ⟨_, rfl⟩
  have m0 : 16 ≤ m ∧ m ≤ 44 := by rcases hg0 with rfl | rfl <;> omega
  have mt : (8380416 : Int).tdiv (2 * g) = m := by rw [Int.tdiv_eq_ediv_of_nonneg (by omega)]; exact hm.symm
  have me : (8380416 : Int) / (2 * g) = m := hm.symm
  have m1 := m0.1
  have m2 := m0.2
  have gl : 0 < g ∧ g ≤ 261888 := by omega
  have g01 := gl.1
  have g02 := gl.2
  have HM : Hid (m = 8380416 / (2 * g)) := hm
  clear hH hR hg0 hm m0 gl
  have s1 := setAt_new w g kk o 176
  have g1 := World.grownBy_alloc w (.cells #[.int .i64 g, .int .i64 kk, .int .i64 o] 176) none
  have e1 := World.size_alloc w (.cells #[.int .i64 g, .int .i64 kk, .int .i64 o] 176)
  have n2 := new_alloc .u32 (w.alloc (.cells #[.int .i64 g, .int .i64 kk, .int .i64 o] 176)) Hh 166
  have n3 := new_alloc .u32 ((w.alloc (.cells #[.int .i64 g, .int .i64 kk, .int .i64 o] 176)).alloc (.cells (polyA .u32 Hh) 166)) R 166
  have n4 := new_alloc .u32 (((w.alloc (.cells #[.int .i64 g, .int .i64 kk, .int .i64 o] 176)).alloc (.cells (polyA .u32 Hh) 166)).alloc (.cells (polyA .u32 R) 166)) (fun _ => 0) 166
  rw [← Tryz.zQ32] at n4
  have hS := ((s1.new n2.g).new n3.g).new n4.g
  have c0 := hS.g
  go_enter Tryz.func137, Tryz.ntmps137
  go_wp2
  generalize (((w.alloc (.cells #[.int .i64 g, .int .i64 kk, .int .i64 o] 176)).alloc (.cells (polyA .u32 Hh) 166)).alloc (.cells (polyA .u32 R) 166)).alloc (.cells Tryz.zeroCells166 166) = w4 at *
  generalize ((w.alloc (.cells #[.int .i64 g, .int .i64 kk, .int .i64 o] 176)).alloc (.cells (polyA .u32 Hh) 166)).alloc (.cells (polyA .u32 R) 166) = w3 at *
  generalize (w.alloc (.cells #[.int .i64 g, .int .i64 kk, .int .i64 o] 176)).alloc (.cells (polyA .u32 Hh) 166) = w2 at *
  generalize w.alloc (.cells #[.int .i64 g, .int .i64 kk, .int .i64 o] 176) = w1 at *
  have hz := (n2.r.new n3.g).new n4.g
  have hr := n3.r.new n4.g
  have hA := n4.r
  have hg := grownBy_trans g1 (grownBy_trans n2.g (grownBy_trans n3.g n4.g))
  rw [n2.s] at hr
  rw [n3.s, n2.s] at hA
  rw [e1] at hz hr hA
  clear s1 g1 e1 n2 n3 n4 c0 mt me
  obtain ⟨B, hB⟩ : ∃ B, B = w.heap.size := ⟨_, rfl⟩
  rw [← hB] at hS hz hr hA ⊢
  have hB' : w.heap.size ≤ B := by omega
  clear hB
  go_loopw [8, 9, 10, 15] (fun _ _ _ i wr => ∃ k : Nat, k ≤ 256 ∧ i = .int .i64 k ∧ w.grownBy wr none ∧ SetAt wr B g kk o ∧ PRow .u32 wr (B + 1) 0 Hh ∧ PRow .u32 wr (B + 1 + 1) 0 (fun j => if j < k then useI g (Hh j) (R j) else R j) ∧ PRow .u32 wr (B + 1 + 1 + 1) 0 (fun _ => 0)) (fun _ _ _ i _ => 256 - (intOf i).toNat)
  case atStart => exact ⟨0, by omega, rfl, hg, hS, hz, hr.ext (fun j _ => by simp), hA⟩
  case round =>
    clear hS hz hr hA hg
    obtain ⟨k, hk, rfl, hg, hS, hz, hr, hA⟩ := hrel
    by_cases hlt : k < 256
    · have b0 : (0 : Int) ≤ (k : Int) := by omega
      have b1 : (k : Int) < 256 := by omega
      have r0 := (HR.out k hlt).1
      have r1 := (HR.out k hlt).2
      have h0 := (HH.out k hlt).1
      have h1 := (HH.out k hlt).2
      have hub := use_bounds g (Hh k) (R k) HG0.out r0 r1
      have ub0 := hub.1
      have ub1 := hub.2
      have hdb := dec_bounds g (R k) HG0.out r0 r1
      have db0 := hdb.1
      have db1 := hdb.2.1
      rw [← HM.out] at db1
      have cr := (hr.at0 k hlt).1
      have ei : (if k < k then useI g (Hh k) (R k) else R k) = R k := if_neg (by omega)
      rw [ei] at cr
      have c0 := hS.g
      have c1 := hS.k
      have c2 := hS.o
      have cv : IntKind.i64.wrap (R k) = R k := by rw [IntKind.wrap_i64] <;> omega
      have cu : IntKind.u32.wrap (useI g (Hh k) (R k)) = useI g (Hh k) (R k) := by rw [IntKind.wrap_u32]; omega
      have HP1 : Hid (∀ W, Calls Tryz.prog 211 #[.agg #[.int .i64 g, .int .i64 kk, .int .i64 o], .int .i64 (R k)] W fun e w' => e = .returned (.tuple #[.int .i64 (decH g (R k)), .int .i64 (decL g (R k))]) ∧ W.grownBy w' none) := fun W => HP.out (R k) W r0 r1
      have HK : Hid (w.grownBy wr none ∧ SetAt wr B g kk o ∧ PRow .u32 wr (B + 1) 0 Hh ∧ PRow .u32 wr (B + 1 + 1) 0 (fun j => if j < k then useI g (Hh j) (R j) else R j) ∧ PRow .u32 wr (B + 1 + 1 + 1) 0 (fun _ => 0)) := ⟨hg, hS, hz, hr, hA⟩
      clear hub hdb ei hg hS hz hr hA
      go_wp2_with fail
      go_region_held3 (fun W => W.cell? ⟨B, 0, none⟩ = some (.int .i64 g) ∧ W.cell? ⟨B, 1, none⟩ = some (.int .i64 kk) ∧ W.cell? ⟨B, 2, none⟩ = some (.int .i64 o) ∧ W.cell? ⟨B + 1 + 1, k, none⟩ = some (.int .u32 (R k))) (first | go_keep | exact hk4 (by assumption) (by assumption)) (first | (go_at_call 211; refine (HP1.out _).mono ?_; rintro e w5 ⟨rfl, g5⟩))
      have g5r : wr.grownBy w5 none := grownBy_trans (grown_drew (World.grownBy.refl wr none)) g5
      have hS6 := HK.out.2.1.new g5r
      have hz6 := HK.out.2.2.1.new g5r
      have hr6 := HK.out.2.2.2.1.new g5r
      have hA6 := HK.out.2.2.2.2.new g5r
      have hg6 := grownBy_trans HK.out.1 g5r
      clear c0 c1 c2 cr cv HP1 HK g5 g5r HP
      have ch := (hz6.at0 k hlt).1
      have cc := (hr6.at0 k hlt).1
      have ff := (hr6.at0 k hlt).2
      have hR7 : PRow .u32 (w5.setCell ⟨B + 1 + 1, k, none⟩ (.int .u32 (useI g (Hh k) (R k)))) (B + 1 + 1) 0 (fun j => if j < k + 1 then useI g (Hh j) (R j) else R j) := (hr6.set0 hlt _).ext (fun j _ => mix_step (fun j => useI g (Hh j) (R j)) R k j)
      have HK : Hid (w.grownBy (w5.setCell ⟨B + 1 + 1, k, none⟩ (.int .u32 (useI g (Hh k) (R k)))) none ∧ SetAt (w5.setCell ⟨B + 1 + 1, k, none⟩ (.int .u32 (useI g (Hh k) (R k)))) B g kk o ∧ PRow .u32 (w5.setCell ⟨B + 1 + 1, k, none⟩ (.int .u32 (useI g (Hh k) (R k)))) (B + 1) 0 Hh ∧ PRow .u32 (w5.setCell ⟨B + 1 + 1, k, none⟩ (.int .u32 (useI g (Hh k) (R k)))) (B + 1 + 1) 0 (fun j => if j < k + 1 then useI g (Hh j) (R j) else R j) ∧ PRow .u32 (w5.setCell ⟨B + 1 + 1, k, none⟩ (.int .u32 (useI g (Hh k) (R k)))) (B + 1 + 1 + 1) 0 (fun _ => 0)) :=
        ⟨grown_setNew hg6 (by simp; omega) _, hS6.set_other (by simp <;> omega) _, hz6.set_other (by simp <;> omega) _, hR7, hA6.set_other (by simp <;> omega) _⟩
      clear hS6 hz6 hr6 hA6 hg6 hR7
      by_cases e0 : Hh k = 0
      · have hu : useI g (Hh k) (R k) = decH g (R k) := by unfold useI; rw [if_pos e0]
        rw [hu] at HK cu
        rw [e0] at ch
        clear ub0 ub1 hu
        go_wp2
        go_roundw
        case rel => exact ⟨k + 1, by omega, by go_num, HK.out⟩
        case measure => simp [intOf]; omega
      · have d0 : (Hh k == 0) = false := by simpa using e0
        by_cases e1 : 0 < decL g (R k)
        · have hu : useI g (Hh k) (R k) = (decH g (R k) + 1) % m := by unfold useI; rw [if_neg e0, if_pos e1, ← HM.out]
          have ht : (decH g (R k) + 1).tmod m = (decH g (R k) + 1) % m := Int.tmod_eq_emod_of_nonneg (by omega)
          have d1 : decide (0 < decL g (R k)) = true := by simpa using e1
          rw [hu] at HK cu ub0 ub1
          clear hu e0 e1
          generalize (decH g (R k) + 1) % m = u at *
          go_wp2
          go_roundw
          case rel => exact ⟨k + 1, by omega, by go_num, HK.out⟩
          case measure => simp [intOf]; omega
        · have hu : useI g (Hh k) (R k) = (decH g (R k) + m - 1) % m := by unfold useI; rw [if_neg e0, if_neg e1, ← HM.out]
          have ht : (decH g (R k) + m - 1).tmod m = (decH g (R k) + m - 1) % m := Int.tmod_eq_emod_of_nonneg (by omega)
          have d1 : decide (0 < decL g (R k)) = false := by simpa using e1
          rw [hu] at HK cu ub0 ub1
          clear hu e0 e1
          generalize (decH g (R k) + m - 1) % m = u at *
          go_wp2
          go_roundw
          case rel => exact ⟨k + 1, by omega, by go_num, HK.out⟩
          case measure => simp [intOf]; omega
    · have hk6 : k = 256 := by omega
      subst hk6
      have hr' : PRow .u32 wr (B + 1 + 1) 0 (fun i => useI g (Hh i) (R i)) := hr.ext (fun j hj => by simp [hj])
      clear hr
      go_wp2_with (first | (refine wpL_load rfl .u32 166 _ rfl (B + 1 + 1) 0 rfl _ hr' Tryz.oQ32 Tryz.sQ32 ?_) | (refine wpL_store rfl .u32 166 _ _ rfl (B + 1 + 1 + 1) 0 rfl _ rfl .u32 _ hA Tryz.sQ32 ?_; intro w7 p7))
      refine bodyPost_ret (res1 rfl .u32 _ w7 (B + 1 + 1 + 1) _ rfl p7.r Tryz.oQ32 Tryz.sQ32) rfl ⟨rfl, grown_new hg p7.g (by omega)⟩
end Go.Proofs.YtkijpphmiogbbaaGreatDoor

namespace Go.Proofs.YtkijpphmiogbbaaGreatDoor
open Go.RowKit
attribute [local go_sem ↓] Go.wp_at_zero Go.wp_at_succ

set_option maxHeartbeats 2000000 in
set_option maxRecDepth 20000 in
theorem calc_use (Ls : Nat → Nat → Int) (M : Nat → Int) (n : Int) (b m : Nat) (cap : Array Value) (w : World) (hm0 : 1 ≤ m) (hm : m ≤ 2) (hn : n ≤ 4294967296)
    (hL : ∀ s, s < m → ∀ i, i < 256 → 0 ≤ Ls s i ∧ Ls s i < n) (hr : ∀ s, s < m → PRow .i64 w b (256 * s) (Ls s)) (hM0 : ∀ i, i < 256 → 0 ≤ M i ∧ M i < 4294967296)
    (hM : ∀ W c, w.grownBy W none → (∀ s, s < m → PRow .u32 W c (256 * s) (Ls s)) → Calls Tryz.prog 136 (#[.slice (some ⟨c, 0, none⟩) m m] ++ cap) W fun e W' => e = .returned (.agg (polyA .u32 M)) ∧ W.grownBy W' none) :
    Calls Tryz.prog 135 #[.int .i64 n, .func (.func 136) #[] cap, .slice (some ⟨b, 0, none⟩) m m] w fun e w' => e = .returned (.tuple #[.agg (polyA .i64 M), .nilIface]) ∧ w.grownBy w' none := by
  have HM : Hid (∀ W c, w.grownBy W none → (∀ s, s < m → PRow .u32 W c (256 * s) (Ls s)) → Calls Tryz.prog 136 (#[.slice (some ⟨c, 0, none⟩) m m] ++ cap) W fun e W' => e = .returned (.agg (polyA .u32 M)) ∧ W.grownBy W' none) := hM
  have H0 : Hid (∀ i, i < 256 → 0 ≤ M i ∧ M i < 4294967296) := hM0
  have n1 := new_alloc .i64 w (fun _ => 0) 71
  rw [← Tryz.z24] at n1
  have HN : Hid (∀ W, w.grownBy W none → Calls Tryz.prog 133 #[.int .i64 n, .slice (some ⟨b, 0, none⟩) m m] W fun e w' => e = .returned (.tuple #[.slice (some ⟨W.heap.size, 0, none⟩) m m, .nilIface]) ∧ W.grownBy w' none ∧ ∀ s, s < m → PRow .u32 w' W.heap.size (256 * s) (Ls s)) := fun W hg => narrowed32_ok Ls n b m m W (by omega) hn hL (fun s hs => (hr s hs).new hg)
  clear hM hL hr hM0
  go_enter Tryz.func135, Tryz.ntmps135
  go_wp2_with (first | (go_at_call 133; refine (HN.out _ n1.g).mono ?_; rintro e w2 ⟨rfl, g2, r2⟩; rw [n1.s] at r2 ⊢; have hg := grownBy_trans n1.g g2; have hA := n1.r.new g2) | (go_at_call 136; refine (HM.out _ (w.heap.size + 1) hg r2).mono ?_; rintro e w3 ⟨rfl, g3⟩) | (go_at_call 125; refine (wide32_any M _ H0.out).mono ?_; rintro e w4 ⟨rfl, g4⟩) | (refine wpL_store rfl .i64 71 _ _ rfl w.heap.size 0 rfl _ rfl .i64 _ ((hA.new g3).new g4) Tryz.sP ?_; intro w5 p5))
  refine bodyPost_ret (res2 rfl .i64 _ w5 w.heap.size M _ rfl rfl p5.r ⟨_, Tryz.uP⟩ Tryz.sP) rfl ⟨rfl, grown_new (grownBy_trans (grownBy_trans hg g3) g4) p5.g (by omega)⟩
end Go.Proofs.YtkijpphmiogbbaaGreatDoor

namespace Go.Proofs.YtkijpphmiogbbaaGreatDoor
open Go.RowKit
attribute [local go_sem ↓] Go.wp_at_zero Go.wp_at_succ

section
attribute [local go_sem ↓] d32Ld_hide d32St_hide
set_option maxHeartbeats 2000000 in
set_option maxRecDepth 20000 in
theorem useC_any (Hh R : Nat → Int) (g kk o : Int) (b c d : Nat) (w : World) (hg0 : g = 95232 ∨ g = 261888) (hH : ∀ i, i < 256 → 0 ≤ Hh i ∧ Hh i < 4294967296) (hR : ∀ i, i < 256 → 0 ≤ R i ∧ R i < 8380417)
    (hS : SetAt w b g kk o) (hh : PRow .u32 w c 0 Hh) (hr : PRow .u32 w d 0 R) :
    Calls Tryz.prog 136 #[.slice (some ⟨d, 0, none⟩) 1 1, .pointer (some ⟨b, 0, none⟩), .pointer (some ⟨c, 0, none⟩)] w fun e w' => e = .returned (.agg (polyA .u32 (fun i => useI g (Hh i) (R i)))) ∧ w.grownBy w' none := by
  have HU : Hid (∀ W, Calls Tryz.prog 137 #[.agg #[.int .i64 g, .int .i64 kk, .int .i64 o], .agg (polyA .u32 Hh), .agg (polyA .u32 R)] W fun e w' => e = .returned (.agg (polyA .u32 (fun i => useI g (Hh i) (R i)))) ∧ W.grownBy w' none) := fun W => sUse_any Hh R g kk o W hg0 hH hR
  clear hg0 hH hR
  have n1 := new_alloc .u32 w (fun _ => 0) 166
  rw [← Tryz.zQ32] at n1
  go_enter Tryz.func136, Tryz.ntmps136
  go_wp2_with fail
  generalize w.alloc (.cells Tryz.zeroCells166 166) = w1 at *
  have hS1 := hS.new n1.g
  have c0 : w1.drew.cell? ⟨b, 0, none⟩ = some (.int .i64 g) := hS1.g
  have c1 : w1.drew.cell? ⟨b, 1, none⟩ = some (.int .i64 kk) := hS1.k
  have c2 : w1.drew.cell? ⟨b, 2, none⟩ = some (.int .i64 o) := hS1.o
  have ld1 := run_d32Ld w1.drew c Hh (hh.new n1.g).drew
  have ld2 := run_d32Ld w1.drew d R (hr.new n1.g).drew
  have z1 := n1.r.drew
  have g1 := grown_drew n1.g
  clear n1 hS1 hS hh hr
  go_region_with (first | (go_at_call 137; refine (HU.out _).mono ?_; rintro e w5 ⟨rfl, g5⟩; have st1 := run_d32St w5 w.heap.size (fun i => useI g (Hh i) (R i)) _ (z1.new g5)))
  all_goals (
    have p6 := put_cells .u32 w5 w.heap.size 0 (fun i => useI g (Hh i) (R i)) ((z1.new g5).there .u32 _)
    clear st1 ld1 ld2
    generalize w5.setCells w.heap.size 0 (polyA .u32 (fun i => useI g (Hh i) (R i))).toList = w6 at *
    go_wp2
    refine bodyPost_ret (res1 rfl .u32 _ w6 w.heap.size _ rfl p6.r Tryz.oQ32 Tryz.sQ32) rfl ⟨rfl, grown_new (grownBy_trans g1 g5) p6.g (by omega)⟩)
end
theorem one_row {k : IntKind} {W : World} {p : Nat} {R : Nat → Int} (h : PRow k W p 0 R) : ∀ s, s < 1 → PRow k W p (256 * s) R := fun s hs => by
  obtain rfl : s = 0 := by omega
  exact h
/-- Two boxed polynomials, a polynomial of noughts. -/
structure Bbz (w w' : World) (L M : Nat → Int) : Prop where
  g : w.grownBy w' none
  r : PRow .i64 w' w.heap.size 0 L
  r' : PRow .i64 w' (w.heap.size + 1) 0 M
  z : PRow .i64 w' (w.heap.size + 1 + 1) 0 (fun _ => 0)
theorem bbz_mk (w : World) (T : TypeId) (L M : Nat → Int) : Bbz w (((w.alloc (.cells (polyA .i64 L) T)).alloc (.cells (polyA .i64 M) T)).alloc (.cells (polyA .i64 (fun _ => 0)) T)) L M := by
  have n1 := new_alloc .i64 w L T
  have n2 := new_alloc .i64 (w.alloc (.cells (polyA .i64 L) T)) M T
  have n3 := new_alloc .i64 ((w.alloc (.cells (polyA .i64 L) T)).alloc (.cells (polyA .i64 M) T)) (fun _ => 0) T
  refine ⟨grownBy_trans n1.g (grownBy_trans n2.g n3.g), (n1.r.new n2.g).new n3.g, ?_, ?_⟩
  · have := n2.r.new n3.g; rw [n1.s] at this; exact this
  · have := n3.r; rw [n2.s, n1.s] at this; exact this
set_option maxHeartbeats 2000000 in
set_option maxRecDepth 20000 in
theorem UseHint_any (Hh R : Nat → Int) (n g kk o : Int) (w : World) (hs : IsSet n g kk o) (hH : ∀ i, i < 256 → 0 ≤ Hh i ∧ Hh i < 2) (hR : ∀ i, i < 256 → 0 ≤ R i ∧ R i < 8380417) :
    Calls Tryz.prog 71 #[.int .i64 n, .agg (polyA .i64 Hh), .agg (polyA .i64 R)] w fun e w' => e = .returned (.tuple #[.agg (polyA .i64 (fun i => useI g (Hh i) (R i))), .nilIface]) ∧ w.grownBy w' none := by
  have HN : Hid (∀ W, Calls Tryz.prog 129 #[.int .i64 n] W fun e w' => e = .returned (.tuple #[.agg #[.int .i64 g, .int .i64 kk, .int .i64 o], .nilIface]) ∧ W.grownBy w' none) := fun W => New_any n g kk o W hs
  have HW : Hid (∀ W, Calls Tryz.prog 122 #[.agg (polyA .i64 Hh), .int .i64 2] W fun e w' => e = .returned (.tuple #[.agg (polyA .u32 Hh), .nilIface]) ∧ W.grownBy w' none) := fun W => narrow32_ok Hh 2 W hH (by omega)
  have HC : Hid (∀ W b c, SetAt W b g kk o → PRow .u32 W c 0 Hh → ∀ p, PRow .i64 W p 0 R → Calls Tryz.prog 135 #[.int .i64 8380417, .func (.func 136) #[] #[.pointer (some ⟨b, 0, none⟩), .pointer (some ⟨c, 0, none⟩)], .slice (some ⟨p, 0, none⟩) 1 1] W fun e w' => e = .returned (.tuple #[.agg (polyA .i64 (fun i => useI g (Hh i) (R i))), .nilIface]) ∧ W.grownBy w' none) := fun W b c h1 h2 p h3 =>
    calc_use (fun _ => R) _ 8380417 p 1 _ W (by omega) (by omega) (by omega) (fun s _ i hi => hR i hi) (one_row h3) (fun i hi => by have := use_bounds g (Hh i) (R i) hs.gam (hR i hi).1 (hR i hi).2; omega)
      (fun W' d hg hr => useC_any Hh R g kk o b c d W' hs.gam (fun i hi => by have := hH i hi; omega) hR (h1.new hg) (h2.new hg) (hr 0 (by omega)))
  clear hs hH hR
  have t1 := bbz_mk w 71 Hh R
  rw [← Tryz.z24] at t1
  go_enter Tryz.func71, Tryz.ntmps71
  go_wp2_with fail
  refine (HN.out _).mono ?_
  rintro e w2 ⟨rfl, g2⟩
  have g3 := World.grownBy_alloc w2 (.cells #[.int .i64 g, .int .i64 kk, .int .i64 o] 176) none
  have S3 := setAt_new w2 g kk o 176
  have h3 := (t1.r.new g2).new g3
  have r3 := (t1.r'.new g2).new g3
  have z3 := (t1.z.new g2).new g3
  have q3 := grownBy_trans (grownBy_trans t1.g g2) g3
  have l2 := (grownBy_trans t1.g g2).size
  have lz := (t1.z.new g2).lt
  clear t1 g2 g3
  go_wp2_with (first | (refine wpL_load rfl .i64 71 _ rfl w.heap.size 0 rfl Hh h3 ⟨_, Tryz.uP⟩ Tryz.sP ?_))
  refine (HW.out _).mono ?_
  rintro e w4 ⟨rfl, g4⟩
  have S4 := S3.new g4
  have r4 := r3.new g4
  have z4 := z3.new g4
  have q4 := grownBy_trans q3 g4
  have l4 := g4.size
  rw [World.size_alloc] at l4
  clear S3 h3 r3 z3 q3 g4
  have n5 := new_alloc .u32 w4 (fun _ => 0) 166
  rw [← Tryz.zQ32] at n5
  go_wp2_with (first | (refine wpL_store rfl .u32 166 _ _ rfl w4.heap.size 0 rfl _ rfl .u32 _ n5.r Tryz.sQ32 ?_; intro w6 p6; have r6 := (r4.new n5.g).far p6.g (by simp; omega)) | (refine wpL_load rfl .i64 71 _ rfl (w.heap.size + 1) 0 rfl R r6 ⟨_, Tryz.uP⟩ Tryz.sP ?_) | (refine wpL_bs1 rfl _ rfl R rfl ?_; intro w7 n7))
  have S7 := ((S4.new n5.g).far p6.g (by simp; omega)).new n7.g
  have z7 := ((z4.new n5.g).far p6.g (by simp; omega)).new n7.g
  have h7 := p6.r.new n7.g
  have q7 := grownBy_trans (grown_new (grownBy_trans q4 n5.g) p6.g (by omega)) n7.g
  have r7 := n7.r
  have l6 := p6.s
  refine (HC.out w7 w2.heap.size w4.heap.size S7 h7 w6.heap.size r7).mono ?_
  rintro e w8 ⟨rfl, g8⟩
  clear S4 r4 z4 q4 n5 p6 n7 r6
  go_wp2_with (first | (refine wpL_store rfl .i64 71 _ _ rfl (w.heap.size + 1 + 1) 0 rfl _ rfl .i64 _ (z7.new g8) Tryz.sP ?_; intro w9 p9))
  refine bodyPost_ret (res2 rfl .i64 _ w9 (w.heap.size + 1 + 1) _ _ rfl rfl p9.r ⟨_, Tryz.uP⟩ Tryz.sP) rfl ⟨rfl, grown_new (grownBy_trans q7 g8) p9.g (by omega)⟩
end Go.Proofs.YtkijpphmiogbbaaGreatDoor

namespace Go.Proofs.YtkijpphmiogbbaaGreatDoor
open Go.RowKit
attribute [local go_sem ↓] Go.wp_at_zero Go.wp_at_succ

theorem run_d32LdF (W : World) (b f : Nat) (L : Nat → Int) (hr : PRow .u32 W b f L) : (d32Ld (.pointer (some ⟨b, f, none⟩))).run Tryz.prog W = .ok (.agg (polyA .u32 L)) W := by
  unfold d32Ld
  simp only [Instr.loadAt, Instr.sureAddr, Sem.run_bind, Sem.run_pure, Result.andThen_ok, run_loadRow .u32 W 166 b f L hr Tryz.oQ32 Tryz.sQ32]
section
variable {ops : Array Oper} {rest : List Oper} {o : Oper} {a : Act} {w : World} {Q : Exit → Act → World → Prop}
theorem wpL_bs2h (hgd : o.guard = none) (x y : Operand) (ho : o.op = .buildSlice 60 2 #[(0, x), (1, y)]) (L M : Nat → Int) (hx : a.eval x = .agg (polyA .i64 L)) (hy : a.eval y = .agg (polyA .i64 M))
    (h : ∀ w', w.grownBy w' none → PRow .i64 w' w.heap.size (256 * 0) L → PRow .i64 w' w.heap.size (256 * 1) M → wpList Tryz.prog ops Q rest (a.put o.dst (.slice (some ⟨w.heap.size, 0, none⟩) 2 2)) w') : wpList Tryz.prog ops Q (o :: rest) a w := by
  refine wpList_plain hgd fun _ hK => ?_
  unfold Oper.wp execOp
  have hp : (#[(0, x), (1, y)] : Array (Nat × Operand)).map (fun (i, x) => (i, a.eval x)) = #[(0, .agg (polyA .i64 L)), (1, .agg (polyA .i64 M))] := by simp [hx, hy]
  simp only [ho, hp, Sem.run_bind, bs_two, Result.andThen_ok]
  have hr := rows_two L M w 71
  exact hK _ _ (h _ (World.grownBy_alloc _ _ _) hr.1 hr.2)
end
theorem res_p2 {P : Program} {fn : Func} {p s t : Tmp} {ty : TypeId} (h : fn.results = #[.cell p ty, .tmp s, .tmp t]) (k : IntKind) (tmps : Array Value) (w : World) (g : Nat) (L : Nat → Int) (u v : Value)
    (hp : tmps.getD p undef = .pointer (some ⟨g, 0, none⟩)) (hs : tmps.getD s undef = u) (ht : tmps.getD t undef = v) (hr : PRow k w g 0 L)
    (hu : ∃ e, P.underlying ty = some (.array 256 e)) (hi : (P.info? ty).map (·.size) = some 256) :
    (results fn tmps).run P w = .ok (.tuple #[.agg (polyA k L), u, v]) w := by
  have hp' : tmps[p]?.getD undef = .pointer (some ⟨g, 0, none⟩) := by simpa using hp
  have hs' : tmps[s]?.getD undef = u := by simpa using hs
  have ht' : tmps[t]?.getD undef = v := by simpa using ht
  simp [results, h, hp', hs', ht', asAddr, run_loadRow k w ty g 0 L hr hu hi]
theorem hint_01 (g z r : Int) : 0 ≤ hintI g z r ∧ hintI g z r < 2 := by unfold hintI; split <;> omega
theorem two_bounds {L M : Nat → Int} {q : Int} (h : ∀ i, i < 256 → 0 ≤ L i ∧ L i < q) (h' : ∀ i, i < 256 → 0 ≤ M i ∧ M i < q) : ∀ s, s < 2 → ∀ i, i < 256 → 0 ≤ (fun s => if s = 0 then L else M) s i ∧ (fun s => if s = 0 then L else M) s i < q := fun s hs => by
  match s, hs with
  | 0, _ => exact h
  | 1, _ => exact h'
theorem two_rows {k : IntKind} {W : World} {p : Nat} {L M : Nat → Int} (h : PRow k W p (256 * 0) L) (h' : PRow k W p (256 * 1) M) : ∀ s, s < 2 → PRow k W p (256 * s) ((fun s => if s = 0 then L else M) s) := fun s hs => by
  match s, hs with
  | 0, _ => exact h
  | 1, _ => exact h'
section
attribute [local go_sem ↓] d32Ld_hide d32St_hide
set_option maxHeartbeats 16000000 in
set_option maxRecDepth 20000 in
theorem Hint_any (Z R : Nat → Int) (n g kk o : Int) (w : World) (hs : IsSet n g kk o) (hZ : ∀ i, i < 256 → 0 ≤ Z i ∧ Z i < 8380417) (hR : ∀ i, i < 256 → 0 ≤ R i ∧ R i < 8380417) :
    Calls Tryz.prog 69 #[.int .i64 n, .agg (polyA .i64 Z), .agg (polyA .i64 R)] w fun e w' => e = .returned (.tuple #[.agg (polyA .i64 (fun i => hintI g (Z i) (R i))), .int .i64 (cnt (fun i => hintI g (Z i) (R i)) 256 : Nat), .nilIface]) ∧ w.grownBy w' none := by
  have HN : Hid (∀ W, Calls Tryz.prog 129 #[.int .i64 n] W fun e w' => e = .returned (.tuple #[.agg #[.int .i64 g, .int .i64 kk, .int .i64 o], .nilIface]) ∧ W.grownBy w' none) := fun W => New_any n g kk o W hs
  have HW : Hid (∀ W b, PRow .i64 W b (256 * 0) Z → PRow .i64 W b (256 * 1) R → Calls Tryz.prog 133 #[.int .i64 8380417, .slice (some ⟨b, 0, none⟩) 2 2] W fun e w' => e = .returned (.tuple #[.slice (some ⟨W.heap.size, 0, none⟩) 2 2, .nilIface]) ∧ W.grownBy w' none ∧ PRow .u32 w' W.heap.size 0 Z ∧ PRow .u32 w' W.heap.size 256 R) := fun W b h1 h2 =>
    (narrowed32_ok (fun s => if s = 0 then Z else R) 8380417 b 2 2 W (by omega) (by omega) (two_bounds hZ hR) (two_rows h1 h2)).mono (by
      rintro e w' ⟨rfl, h3, h4⟩
      exact ⟨rfl, h3, h4 0 (by omega), h4 1 (by omega)⟩)
  have HH : Hid (∀ W, Calls Tryz.prog 134 #[.agg #[.int .i64 g, .int .i64 kk, .int .i64 o], .agg (polyA .u32 Z), .agg (polyA .u32 R)] W fun e w' => e = .returned (.tuple #[.agg (polyA .u32 (fun i => hintI g (Z i) (R i))), .int .i64 (cnt (fun i => hintI g (Z i) (R i)) 256 : Nat)]) ∧ W.grownBy w' none) := fun W => sHint_any Z R g kk o W hs.gam hZ hR
  have HV : Hid (∀ W, Calls Tryz.prog 125 #[.agg (polyA .u32 (fun i => hintI g (Z i) (R i)))] W fun e w' => e = .returned (.agg (polyA .i64 (fun i => hintI g (Z i) (R i)))) ∧ W.grownBy w' none) := fun W => wide32_any _ W (fun i _ => by have := hint_01 g (Z i) (R i); omega)
  clear hs hZ hR
  generalize cnt (fun i => hintI g (Z i) (R i)) 256 = cn at *
  generalize (fun i => hintI g (Z i) (R i)) = Hf at *
  have t1 := bbz_mk w 71 Z R
  rw [← Tryz.z24] at t1
  go_enter Tryz.func69, Tryz.ntmps69
  go_wp2_with fail
  refine (HN.out _).mono ?_
  rintro e w2 ⟨rfl, g2⟩
  have g3 := World.grownBy_alloc w2 (.cells #[.int .i64 g, .int .i64 kk, .int .i64 o] 176) none
  have S3 := setAt_new w2 g kk o 176
  have h3 := (t1.r.new g2).new g3
  have r3 := (t1.r'.new g2).new g3
  have z3 := (t1.z.new g2).new g3
  have q3 := grownBy_trans (grownBy_trans t1.g g2) g3
  clear t1 g2 g3
  go_wp2_with (first | (refine wpL_load rfl .i64 71 _ rfl w.heap.size 0 rfl Z h3 ⟨_, Tryz.uP⟩ Tryz.sP ?_) | (refine wpL_load rfl .i64 71 _ rfl (w.heap.size + 1) 0 rfl R r3 ⟨_, Tryz.uP⟩ Tryz.sP ?_) | (refine wpL_bs2h rfl _ _ rfl Z R rfl rfl ?_; intro w4 g4 a4 b4))
  rw [World.size_alloc] at a4 b4
  refine (HW.out w4 (w2.heap.size + 1) a4 b4).mono ?_
  rintro e w5 ⟨rfl, g5, a5, b5⟩
  have S5 := (S3.new g4).new g5
  have z5 := (z3.new g4).new g5
  have q5 := grownBy_trans q3 (grownBy_trans g4 g5)
  clear S3 h3 r3 z3 q3 g4 a4 b4 g5
  obtain ⟨N, hN⟩ : ∃ N, N = w4.heap.size := ⟨_, rfl⟩
  rw [← hN] at a5 b5 ⊢
  clear hN
  have n6 := new_alloc .u32 w5 (fun _ => 0) 166
  rw [← Tryz.zQ32] at n6
  have c0 : w5.drew.cell? ⟨w2.heap.size, 0, none⟩ = some (.int .i64 g) := S5.g
  have c1 : w5.drew.cell? ⟨w2.heap.size, 1, none⟩ = some (.int .i64 kk) := S5.k
  have c2 : w5.drew.cell? ⟨w2.heap.size, 2, none⟩ = some (.int .i64 o) := S5.o
  have S6 := S5.new n6.g
  have d0 : (w5.alloc (.cells Tryz.zeroCells166 166)).drew.cell? ⟨w2.heap.size, 0, none⟩ = some (.int .i64 g) := S6.g
  have d1 : (w5.alloc (.cells Tryz.zeroCells166 166)).drew.cell? ⟨w2.heap.size, 1, none⟩ = some (.int .i64 kk) := S6.k
  have d2 : (w5.alloc (.cells Tryz.zeroCells166 166)).drew.cell? ⟨w2.heap.size, 2, none⟩ = some (.int .i64 o) := S6.o
  have ldA := run_d32LdF w5.drew N 0 Z a5.drew
  have ldB := run_d32LdF w5.drew N 256 R b5.drew
  have ldC := run_d32LdF (w5.alloc (.cells Tryz.zeroCells166 166)).drew N 0 Z (a5.new n6.g).drew
  have ldD := run_d32LdF (w5.alloc (.cells Tryz.zeroCells166 166)).drew N 256 R (b5.new n6.g).drew
  have ix0 : ∀ W, (Instr.indexAt 181 (.slice (some ⟨N, 0, none⟩) 2 2) (.int .i64 0)).run Tryz.prog W = .ok (.pointer (some ⟨N, 0, none⟩)) W := fun W => ixPolys32 N 2 0 (by omega) W
  have ix1 : ∀ W, (Instr.indexAt 181 (.slice (some ⟨N, 0, none⟩) 2 2) (.int .i64 1)).run Tryz.prog W = .ok (.pointer (some ⟨N, 256, none⟩)) W := fun W => ixPolys32 N 2 1 (by omega) W
  have r6 := n6.r.drew
  have HK : Hid (PRow .i64 w5 (w.heap.size + 1 + 1) 0 (fun _ => 0) ∧ w.grownBy w5 none) := ⟨z5, q5⟩
  clear S5 S6 z5 q5 a5 b5
  go_wp2_with fail
  go_region_with (first | (go_at_call 134; refine (HH.out _).mono ?_; rintro e w7 ⟨rfl, g7⟩; have n7 := new_alloc .u32 w7 (fun _ => 0) 166; rw [← Tryz.zQ32] at n7; have stA := run_d32St (w7.alloc (.cells Tryz.zeroCells166 166)) w7.heap.size Hf _ n7.r; try (have g7b : (w5.alloc (.cells Tryz.zeroCells166 166)).drew.grownBy w7 none := (by with_reducible assumption); have stB := run_d32St w7 w5.heap.size Hf _ (r6.new g7b))))
  all_goals first
    | ( have e6 := stB
        have z5 := HK.out.1
        have q5 := HK.out.2
        have l5 := q5.size
        have lz := z5.lt
        have p8 := put_cells .u32 w7 w5.heap.size 0 Hf ((r6.new g7b).there .u32 _)
        have q8 := grown_new (grownBy_trans q5 (grownBy_trans (grown_drew n6.g) g7b)) p8.g (by omega)
        have z8 := (((z5.new n6.g).drew.new g7b).far p8.g (by simp; omega))
        generalize w7.setCells w5.heap.size 0 (polyA .u32 Hf).toList = w8 at *
        clear e6 stB stA ldA ldB ldC ldD c0 c1 c2 d0 d1 d2 ix0 ix1
        go_wp2_with (first | (refine wpL_load rfl .u32 166 _ rfl w5.heap.size 0 rfl _ p8.r Tryz.oQ32 Tryz.sQ32 ?_) | (go_at_call 125; refine (HV.out _).mono ?_; rintro e w9 ⟨rfl, g9⟩) | (refine wpL_store rfl .i64 71 _ _ rfl (w.heap.size + 1 + 1) 0 rfl _ rfl .i64 _ (z8.new g9) Tryz.sP ?_; intro wa pa))
        refine bodyPost_ret (res_p2 rfl .i64 _ wa (w.heap.size + 1 + 1) _ _ _ rfl rfl rfl pa.r ⟨_, Tryz.uP⟩ Tryz.sP) rfl ⟨rfl, grown_new (grownBy_trans q8 g9) pa.g (by omega)⟩)
    | ( have z5 := HK.out.1
        have q5 := HK.out.2
        have l5 := q5.size
        have lz := z5.lt
        have l7 := g7.size
        have p8 := put_cells .u32 (w7.alloc (.cells Tryz.zeroCells166 166)) w7.heap.size 0 Hf (n7.r.there .u32 _)
        have q7 := grownBy_trans q5 (grownBy_trans (grown_drew (World.grownBy.refl w5 none)) (grownBy_trans g7 n7.g))
        have q8 := grown_new q7 p8.g (Nat.le_trans l5 l7)
        have z7 := (z5.drew.new g7)
        have lz7 := z7.lt
        have z8 := (z7.new n7.g).far p8.g (by simp; omega)
        generalize (w7.alloc (.cells Tryz.zeroCells166 166)).setCells w7.heap.size 0 (polyA .u32 Hf).toList = w8 at *
        clear stA ldA ldB ldC ldD c0 c1 c2 d0 d1 d2 ix0 ix1
        go_wp2_with (first | (refine wpL_load rfl .u32 166 _ rfl w7.heap.size 0 rfl _ p8.r Tryz.oQ32 Tryz.sQ32 ?_) | (go_at_call 125; refine (HV.out _).mono ?_; rintro e w9 ⟨rfl, g9⟩) | (refine wpL_store rfl .i64 71 _ _ rfl (w.heap.size + 1 + 1) 0 rfl _ rfl .i64 _ (z8.new g9) Tryz.sP ?_; intro wa pa))
        refine bodyPost_ret (res_p2 rfl .i64 _ wa (w.heap.size + 1 + 1) _ _ _ rfl rfl rfl pa.r ⟨_, Tryz.uP⟩ Tryz.sP) rfl ⟨rfl, grown_new (grownBy_trans q8 g9) pa.g (by omega)⟩)
end
end Go.Proofs.YtkijpphmiogbbaaGreatDoor
