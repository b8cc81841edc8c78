import Derived.Test.YtkijpphmiogbbaaL1
namespace Go.Proofs.Ytkijpphmiogbbaa
open Go.RowKit
attribute [local go_sem ↓] Go.wp_at_zero Go.wp_at_succ

theorem pick_any (c n : Int) (w : World) (hc : -9223372036854775808 ≤ c) (hc' : c ≤ 9223372036854775807) (hn : 0 < n) (hn' : n ≤ 9223372036854775807) :
    Calls Try.prog 11 #[.int .i64 c, .int .i64 n] w fun e w' => ∃ k : Nat, (k : Int) < n ∧ e = .returned (.int .i64 k) ∧ w' = w := by
  by_cases h : c < 0
  · have h1 : -((c + 1).tmod n) = (-(c + 1)) % n := by rw [← Int.neg_tmod, Int.tmod_eq_emod_of_nonneg (by omega)]
    have h2 := Int.emod_nonneg (-(c + 1)) (show n ≠ 0 by omega)
    have h3 := Int.emod_lt_of_pos (-(c + 1)) hn
    have HK : Hid (-((c + 1).tmod n) = (((-(c + 1)) % n).toNat : Int)) := by show _ = _; rw [h1]; omega
    clear h1
    go_enter Try.func11, Try.ntmps11
    go_wp2
    go_ret
    refine ⟨((-(c + 1)) % n).toNat, by omega, ?_, rfl⟩
    show Ending.returned (.int .i64 (-((c + 1).tmod n))) = _
    rw [HK.out]
  · have h2 := Int.emod_nonneg c (show n ≠ 0 by omega)
    have h3 := Int.emod_lt_of_pos c hn
    have HK : Hid (c % n = ((c % n).toNat : Int)) := by show _ = _; omega
    go_enter Try.func11, Try.ntmps11
    go_wp2
    go_ret
    refine ⟨(c % n).toNat, by omega, ?_, rfl⟩
    show Ending.returned (.int .i64 (c % n)) = _
    rw [← HK.out]

set_option maxHeartbeats 1000000 in
set_option maxRecDepth 20000 in
theorem drawn_any (c n : Int) (w : World) (hc : -9223372036854775808 ≤ c) (hc' : c ≤ 9223372036854775807) (hn : 0 < n) (hn' : n ≤ 2147483648) :
    Calls Try.prog 7 #[.int .i64 c, .int .i64 n] w fun e w' => ∃ L : Nat → Int, (∀ i, i < 256 → 0 ≤ L i ∧ L i < n) ∧ e = .returned (.agg (polyA .i64 L)) ∧ w.grownBy w' none := by
  go_enter Try.func7, Try.ntmps7
  go_wp2_with fail
  refine (pick_any c 2147483648 _ hc hc' (by omega) (by omega)).mono ?_
  rintro e w' ⟨v0, hv0, rfl, hw⟩
  rw [hw]
  clear hw w'
  have n1 := new_alloc .i64 w (fun _ => 0) 24
  rw [← Try.z24] at n1
  generalize w.alloc (.cells Try.zeroCells24 24) = w1 at *
  have n2 := new_alloc .i64 w1 (fun _ => 0) 24
  rw [← Try.z24] at n2
  go_wp2
  generalize w1.alloc (.cells Try.zeroCells24 24) = w2 at *
  obtain ⟨B, hB⟩ : ∃ B, B = w.heap.size := ⟨_, rfl⟩
  have n1s := n1.s
  have hA : PRow .i64 w2 B 0 (fun _ => 0) := by rw [hB]; exact n1.r.new n2.g
  have hR := n2.r
  have hg : w.grownBy w2 none := grownBy_trans n1.g n2.g
  rw [n1s] at hR ⊢
  rw [← hB] at hR ⊢
  have hB' : w.heap.size ≤ B := by omega
  clear n1 n2 n1s hB
  go_loopw [5, 7] (fun v i wr => ∃ (u k : Nat) (L : Nat → Int), k ≤ 256 ∧ v = .int .i64 u ∧ u < 2147483648 ∧ i = .int .i64 k ∧ w.grownBy wr none ∧ PRow .i64 wr B 0 (fun _ => 0) ∧ PRow .i64 wr (B + 1) 0 L ∧ ∀ j, j < 256 → 0 ≤ L j ∧ L j < n) (fun _ i _ => 256 - (intOf i).toNat)
  case atStart => exact ⟨v0, 0, fun _ => 0, by omega, rfl, by omega, rfl, hg, hA, hR, fun _ _ => ⟨Int.le_refl 0, hn⟩⟩
  case round =>
    clear hA hR hg hv0
    obtain ⟨u, k, L, hk, rfl, hu, rfl, hg, hA, hR, hL⟩ := hrel
    by_cases hlt : k < 256
    · have b0 : (0 : Int) ≤ (k : Int) := by omega
      have b1 : (k : Int) < 256 := by omega
      obtain ⟨v, hv⟩ : ∃ v : Nat, v = (u * 1103515245 + 12345) % 2147483648 := ⟨_, rfl⟩
      have m1 : ((u : Int) * 1103515245 + 12345).tmod 2147483648 = (v : Int) := by rw [Int.tmod_eq_emod_of_nonneg (by omega)]; omega
      have m2 : ((u : Int) * 1103515245 + 12345) % 2147483648 = (v : Int) := by omega
      have hvl : v < 2147483648 := by omega
      have v0 : (0 : Int) ≤ (v : Int) := by omega
      obtain ⟨r, hr⟩ : ∃ r : Int, r = ((v : Int) / 64) % n := ⟨_, rfl⟩
      have r0 : 0 ≤ r := by rw [hr]; exact Int.emod_nonneg _ (by omega)
      have r1 : r < n := by rw [hr]; exact Int.emod_lt_of_pos _ hn
      have r2 : ((v : Int).tdiv 64).tmod n = r := by rw [Int.tdiv_eq_ediv_of_nonneg (by omega), Int.tmod_eq_emod_of_nonneg (by omega), hr]
      have r3 : ((v : Int) / 64) % n = r := hr.symm
      have cc := (hR.at0 k hlt).1
      have ff := (hR.at0 k hlt).2
      have HV : Hid (v = (u * 1103515245 + 12345) % 2147483648) := hv
      clear hv hr
      have o1 : (u : Int) * 1103515245 ≤ 2369780942852710400 := by omega
      have hkey : ((((v : Int) / 8 % 8 == 0) = true) ∧ (((v : Int) / 8 % 8 == 1) = false)) ∨ ((((v : Int) / 8 % 8 == 0) = false) ∧ (((v : Int) / 8 % 8 == 1) = true)) ∨ ((((v : Int) / 8 % 8 == 0) = false) ∧ (((v : Int) / 8 % 8 == 1) = false)) := by
        simp only [beq_iff_eq, beq_eq_false_iff_ne]; omega
      rcases hkey with ⟨e0, e1⟩ | ⟨e0, e1⟩ | ⟨e0, e1⟩
      · go_wp2
        go_roundw
        case rel =>
          refine ⟨v, k + 1, upd (upd L k r) k 0, by omega, rfl, hvl, by go_num, grown_setNew (grown_setNew hg (by simp; omega) _) (by simp; omega) _, (hA.set_other (by simp) _).set_other (by simp) _, (hR.set0 hlt _).set0 hlt _, fun j hj => ?_⟩
          unfold upd
          split
          · exact ⟨Int.le_refl 0, hn⟩
          · exact hL j hj
        case measure => simp [intOf]; omega
      · go_wp2
        go_roundw
        case rel =>
          refine ⟨v, k + 1, upd (upd L k r) k (n - 1), by omega, rfl, hvl, by go_num, grown_setNew (grown_setNew hg (by simp; omega) _) (by simp; omega) _, (hA.set_other (by simp) _).set_other (by simp) _, (hR.set0 hlt _).set0 hlt _, fun j hj => ?_⟩
          unfold upd
          split
          · exact ⟨by omega, by omega⟩
          · exact hL j hj
        case measure => simp [intOf]; omega
      · go_wp2
        go_roundw
        case rel =>
          refine ⟨v, k + 1, upd L k r, by omega, rfl, hvl, by go_num, grown_setNew hg (by simp; omega) _, hA.set_other (by simp) _, hR.set0 hlt _, fun j hj => ?_⟩
          unfold upd
          split
          · exact ⟨r0, r1⟩
          · exact hL j hj
        case measure => simp [intOf]; omega
    · have hk6 : k = 256 := by omega
      subst hk6
      go_wp2_with (first | (refine wpL_load rfl .i64 24 _ rfl (B + 1) 0 rfl L hR ⟨_, Try.uP⟩ Try.sP ?_) | (refine wpL_store rfl .i64 24 _ _ rfl B 0 rfl L rfl .i64 _ hA Try.sP ?_; intro w3 p3))
      refine bodyPost_ret (res1 rfl .i64 _ w3 B L rfl p3.r ⟨_, Try.uP⟩ Try.sP) rfl ⟨L, hL, rfl, grown_new hg p3.g (by omega)⟩
end Go.Proofs.Ytkijpphmiogbbaa
