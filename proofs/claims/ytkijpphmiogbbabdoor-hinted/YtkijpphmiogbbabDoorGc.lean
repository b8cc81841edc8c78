import Derived.Test.YtkijpphmiogbbabDoorGb
namespace Go.Proofs.YtkijpphmiogbbabDoor
open Go.RowKit
attribute [local go_sem ↓] Go.wp_at_zero Go.wp_at_succ
attribute [local go_sem] Tryd.zv24 Tryd.zv51

theorem use_bounds (g h r : Int) (hg : g = 95232 ∨ g = 261888) (hr : 0 ≤ r) (hr' : r < 8380417) : 0 ≤ useI g h r ∧ useI g h r < 44 := by
  have hb := dec_bounds g r hg hr hr'
  unfold useI
  generalize decH g r = H at *
  generalize decL g r = D at *
  rcases hg with rfl | rfl
  · simp only [show (2 : Int) * 95232 = 190464 from rfl, show (8380416 : Int) / 190464 = 44 from rfl] at *
    split
    · omega
    · split <;> omega
  · simp only [show (2 : Int) * 261888 = 523776 from rfl, show (8380416 : Int) / 523776 = 16 from rfl] at *
    split
    · omega
    · split <;> omega
set_option maxHeartbeats 2000000 in
set_option maxRecDepth 20000 in
theorem sUse_any (Hh R : Nat → Int) (g kk o : Int) (w : World) (hg0 : g = 95232 ∨ g = 261888) (hH : ∀ i, i < 256 → 0 ≤ Hh i ∧ Hh i < 4294967296) (hR : ∀ i, i < 256 → 0 ≤ R i ∧ R i < 8380417) :
    Calls Tryd.prog 20 #[.agg #[.int .i64 g, .int .i64 kk, .int .i64 o], .agg (polyA .u32 Hh), .agg (polyA .u32 R)] w fun e w' => e = .returned (.agg (polyA .u32 (fun i => useI g (Hh i) (R i)))) ∧ w.grownBy w' none := by
  have HH : Hid (∀ i, i < 256 → 0 ≤ Hh i ∧ Hh i < 4294967296) := hH
  have HR : Hid (∀ i, i < 256 → 0 ≤ R i ∧ R i < 8380417) := hR
  have HP : Hid (∀ a W, 0 ≤ a → a < 8380417 → Calls Tryd.prog 26 #[.agg #[.int .i64 g, .int .i64 kk, .int .i64 o], .int .i64 a] W fun e w' => e = .returned (.tuple #[.int .i64 (decH g a), .int .i64 (decL g a)]) ∧ W.grownBy w' none) := fun a W h0 h1 => part_any g kk o a W h0 (by omega) (by omega) (by omega)
  have HG0 : Hid (g = 95232 ∨ g = 261888) := hg0
  obtain ⟨m, hm⟩ : ∃ m : Int, m = 8380416 / (2 * g) := ⟨_, rfl⟩
  have m0 : 16 ≤ m ∧ m ≤ 44 := by rcases hg0 with rfl | rfl <;> omega
  have mt : (8380416 : Int).tdiv (2 * g) = m := by rw [Int.tdiv_eq_ediv_of_nonneg (by omega)]; exact hm.symm
  have me : (8380416 : Int) / (2 * g) = m := hm.symm
  have m1 := m0.1
  have m2 := m0.2
  have gl : 0 < g ∧ g ≤ 261888 := by omega
  have g01 := gl.1
  have g02 := gl.2
  have HM : Hid (m = 8380416 / (2 * g)) := hm
  clear hH hR hg0 hm m0 gl
  have s1 := setAt_new w g kk o 43
  have g1 := World.grownBy_alloc w (.cells #[.int .i64 g, .int .i64 kk, .int .i64 o] 43) none
  have e1 := World.size_alloc w (.cells #[.int .i64 g, .int .i64 kk, .int .i64 o] 43)
  have n2 := new_alloc .u32 (w.alloc (.cells #[.int .i64 g, .int .i64 kk, .int .i64 o] 43)) Hh 51
  have n3 := new_alloc .u32 ((w.alloc (.cells #[.int .i64 g, .int .i64 kk, .int .i64 o] 43)).alloc (.cells (polyA .u32 Hh) 51)) R 51
  have n4 := new_alloc .u32 (((w.alloc (.cells #[.int .i64 g, .int .i64 kk, .int .i64 o] 43)).alloc (.cells (polyA .u32 Hh) 51)).alloc (.cells (polyA .u32 R) 51)) (fun _ => 0) 51
  rw [← Tryd.zQ32] at n4
  have hS := ((s1.new n2.g).new n3.g).new n4.g
  have c0 := hS.g
  go_enter Tryd.func20, Tryd.ntmps20
  go_wp2
  generalize (((w.alloc (.cells #[.int .i64 g, .int .i64 kk, .int .i64 o] 43)).alloc (.cells (polyA .u32 Hh) 51)).alloc (.cells (polyA .u32 R) 51)).alloc (.cells Tryd.zeroCells51 51) = w4 at *
  generalize ((w.alloc (.cells #[.int .i64 g, .int .i64 kk, .int .i64 o] 43)).alloc (.cells (polyA .u32 Hh) 51)).alloc (.cells (polyA .u32 R) 51) = w3 at *
  generalize (w.alloc (.cells #[.int .i64 g, .int .i64 kk, .int .i64 o] 43)).alloc (.cells (polyA .u32 Hh) 51) = w2 at *
  generalize w.alloc (.cells #[.int .i64 g, .int .i64 kk, .int .i64 o] 43) = w1 at *
  have hz := (n2.r.new n3.g).new n4.g
  have hr := n3.r.new n4.g
  have hA := n4.r
  have hg := grownBy_trans g1 (grownBy_trans n2.g (grownBy_trans n3.g n4.g))
  rw [n2.s] at hr
  rw [n3.s, n2.s] at hA
  rw [e1] at hz hr hA
  clear s1 g1 e1 n2 n3 n4 c0 mt me
  obtain ⟨B, hB⟩ : ∃ B, B = w.heap.size := ⟨_, rfl⟩
  rw [← hB] at hS hz hr hA ⊢
  have hB' : w.heap.size ≤ B := by omega
  clear hB
  go_loopw [8, 9, 10, 15] (fun _ _ _ i wr => ∃ k : Nat, k ≤ 256 ∧ i = .int .i64 k ∧ w.grownBy wr none ∧ SetAt wr B g kk o ∧ PRow .u32 wr (B + 1) 0 Hh ∧ PRow .u32 wr (B + 1 + 1) 0 (fun j => if j < k then useI g (Hh j) (R j) else R j) ∧ PRow .u32 wr (B + 1 + 1 + 1) 0 (fun _ => 0)) (fun _ _ _ i _ => 256 - (intOf i).toNat)
  case atStart => exact ⟨0, by omega, rfl, hg, hS, hz, hr.ext (fun j _ => by simp), hA⟩
  case round =>
    clear hS hz hr hA hg
    obtain ⟨k, hk, rfl, hg, hS, hz, hr, hA⟩ := hrel
    by_cases hlt : k < 256
    · have b0 : (0 : Int) ≤ (k : Int) := by omega
      have b1 : (k : Int) < 256 := by omega
      have r0 := (HR.out k hlt).1
      have r1 := (HR.out k hlt).2
      have h0 := (HH.out k hlt).1
      have h1 := (HH.out k hlt).2
      have hub := use_bounds g (Hh k) (R k) HG0.out r0 r1
      have ub0 := hub.1
      have ub1 := hub.2
      have hdb := dec_bounds g (R k) HG0.out r0 r1
      have db0 := hdb.1
      have db1 := hdb.2.1
      rw [← HM.out] at db1
      have cr := (hr.at0 k hlt).1
      have ei : (if k < k then useI g (Hh k) (R k) else R k) = R k := if_neg (by omega)
      rw [ei] at cr
      have c0 := hS.g
      have c1 := hS.k
      have c2 := hS.o
      have cv : IntKind.i64.wrap (R k) = R k := by rw [IntKind.wrap_i64] <;> omega
      have cu : IntKind.u32.wrap (useI g (Hh k) (R k)) = useI g (Hh k) (R k) := by rw [IntKind.wrap_u32]; omega
      have HP1 : Hid (∀ W, Calls Tryd.prog 26 #[.agg #[.int .i64 g, .int .i64 kk, .int .i64 o], .int .i64 (R k)] W fun e w' => e = .returned (.tuple #[.int .i64 (decH g (R k)), .int .i64 (decL g (R k))]) ∧ W.grownBy w' none) := fun W => HP.out (R k) W r0 r1
      have HK : Hid (w.grownBy wr none ∧ SetAt wr B g kk o ∧ PRow .u32 wr (B + 1) 0 Hh ∧ PRow .u32 wr (B + 1 + 1) 0 (fun j => if j < k then useI g (Hh j) (R j) else R j) ∧ PRow .u32 wr (B + 1 + 1 + 1) 0 (fun _ => 0)) := ⟨hg, hS, hz, hr, hA⟩
      clear hub hdb ei hg hS hz hr hA
      go_wp2_with fail
      go_region_held3 (fun W => W.cell? ⟨B, 0, none⟩ = some (.int .i64 g) ∧ W.cell? ⟨B, 1, none⟩ = some (.int .i64 kk) ∧ W.cell? ⟨B, 2, none⟩ = some (.int .i64 o) ∧ W.cell? ⟨B + 1 + 1, k, none⟩ = some (.int .u32 (R k))) (first | go_keep | exact hk4 (by assumption) (by assumption)) (first | (go_at_call 26; refine (HP1.out _).mono ?_; rintro e w5 ⟨rfl, g5⟩))
      have g5r : wr.grownBy w5 none := grownBy_trans (grown_drew (World.grownBy.refl wr none)) g5
      have hS6 := HK.out.2.1.new g5r
      have hz6 := HK.out.2.2.1.new g5r
      have hr6 := HK.out.2.2.2.1.new g5r
      have hA6 := HK.out.2.2.2.2.new g5r
      have hg6 := grownBy_trans HK.out.1 g5r
      clear c0 c1 c2 cr cv HP1 HK g5 g5r HP
      have ch := (hz6.at0 k hlt).1
      have cc := (hr6.at0 k hlt).1
      have ff := (hr6.at0 k hlt).2
      have hR7 : PRow .u32 (w5.setCell ⟨B + 1 + 1, k, none⟩ (.int .u32 (useI g (Hh k) (R k)))) (B + 1 + 1) 0 (fun j => if j < k + 1 then useI g (Hh j) (R j) else R j) := (hr6.set0 hlt _).ext (fun j _ => mix_step (fun j => useI g (Hh j) (R j)) R k j)
      have HK : Hid (w.grownBy (w5.setCell ⟨B + 1 + 1, k, none⟩ (.int .u32 (useI g (Hh k) (R k)))) none ∧ SetAt (w5.setCell ⟨B + 1 + 1, k, none⟩ (.int .u32 (useI g (Hh k) (R k)))) B g kk o ∧ PRow .u32 (w5.setCell ⟨B + 1 + 1, k, none⟩ (.int .u32 (useI g (Hh k) (R k)))) (B + 1) 0 Hh ∧ PRow .u32 (w5.setCell ⟨B + 1 + 1, k, none⟩ (.int .u32 (useI g (Hh k) (R k)))) (B + 1 + 1) 0 (fun j => if j < k + 1 then useI g (Hh j) (R j) else R j) ∧ PRow .u32 (w5.setCell ⟨B + 1 + 1, k, none⟩ (.int .u32 (useI g (Hh k) (R k)))) (B + 1 + 1 + 1) 0 (fun _ => 0)) :=
        ⟨grown_setNew hg6 (by simp; omega) _, hS6.set_other (by simp <;> omega) _, hz6.set_other (by simp <;> omega) _, hR7, hA6.set_other (by simp <;> omega) _⟩
      clear hS6 hz6 hr6 hA6 hg6 hR7
      by_cases e0 : Hh k = 0
      · have hu : useI g (Hh k) (R k) = decH g (R k) := by unfold useI; rw [if_pos e0]
        rw [hu] at HK cu
        rw [e0] at ch
        clear ub0 ub1 hu
        go_wp2
        go_roundw
        case rel => exact ⟨k + 1, by omega, by go_num, HK.out⟩
        case measure => simp [intOf]; omega
      · have d0 : (Hh k == 0) = false := by simpa using e0
        by_cases e1 : 0 < decL g (R k)
        · have hu : useI g (Hh k) (R k) = (decH g (R k) + 1) % m := by unfold useI; rw [if_neg e0, if_pos e1, ← HM.out]
          have ht : (decH g (R k) + 1).tmod m = (decH g (R k) + 1) % m := Int.tmod_eq_emod_of_nonneg (by omega)
          have d1 : decide (0 < decL g (R k)) = true := by simpa using e1
          rw [hu] at HK cu ub0 ub1
          clear hu e0 e1
          generalize (decH g (R k) + 1) % m = u at *
          go_wp2
          go_roundw
          case rel => exact ⟨k + 1, by omega, by go_num, HK.out⟩
          case measure => simp [intOf]; omega
        · have hu : useI g (Hh k) (R k) = (decH g (R k) + m - 1) % m := by unfold useI; rw [if_neg e0, if_neg e1, ← HM.out]
          have ht : (decH g (R k) + m - 1).tmod m = (decH g (R k) + m - 1) % m := Int.tmod_eq_emod_of_nonneg (by omega)
          have d1 : decide (0 < decL g (R k)) = false := by simpa using e1
          rw [hu] at HK cu ub0 ub1
          clear hu e0 e1
          generalize (decH g (R k) + m - 1) % m = u at *
          go_wp2
          go_roundw
          case rel => exact ⟨k + 1, by omega, by go_num, HK.out⟩
          case measure => simp [intOf]; omega
    · have hk6 : k = 256 := by omega
      subst hk6
      have hr' : PRow .u32 wr (B + 1 + 1) 0 (fun i => useI g (Hh i) (R i)) := hr.ext (fun j hj => by simp [hj])
      clear hr
      go_wp2_with (first | (refine wpL_load rfl .u32 51 _ rfl (B + 1 + 1) 0 rfl _ hr' Tryd.oQ32 Tryd.sQ32 ?_) | (refine wpL_store rfl .u32 51 _ _ rfl (B + 1 + 1 + 1) 0 rfl _ rfl .u32 _ hA Tryd.sQ32 ?_; intro w7 p7))
      refine bodyPost_ret (res1 rfl .u32 _ w7 (B + 1 + 1 + 1) _ rfl p7.r Tryd.oQ32 Tryd.sQ32) rfl ⟨rfl, grown_new hg p7.g (by omega)⟩
end Go.Proofs.YtkijpphmiogbbabDoor
