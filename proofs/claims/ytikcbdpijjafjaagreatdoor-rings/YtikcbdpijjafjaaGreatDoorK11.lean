import Derived.Test.YtikcbdpijjafjaaGreatDoorK10
namespace Go.Proofs.YtikcbdpijjafjaaGreatDoor.Z
open Go.RowKit
attribute [local go_sem ↓] Go.wp_at_zero Go.wp_at_succ
attribute [local go_sem ↓] ld_hide st_hide bs_hide ldA_hide stA_hide Hf.ld_hide Hf.st_hide

set_option maxHeartbeats 2000000 in
set_option maxRecDepth 20000 in
theorem rprodG_any (L M : Nat → Int) (hL : InB L 8380417) (hM : InB M 8380417) (w : World) :
    Calls Tryz.prog 116 #[.agg (polyA .i64 L), .agg (polyA .i64 M)] w fun e w' => e = .returned (.agg (polyA .i64 (prodG L M))) ∧ w.grownBy w' none := by
  have n1 := new_alloc .i64 w L 43
  generalize hw1 : w.alloc (.cells (polyA .i64 L) 43) = w1 at n1
  have n2 := new_alloc .i64 w1 M 43
  generalize hw2 : w1.alloc (.cells (polyA .i64 M) 43) = w2 at n2
  have n3 := new_alloc .i64 w2 (fun _ => 0) 43
  rw [← Tryz.zY] at n3
  have s1 := n1.s
  have s2 := n2.s
  have g3 : w.grownBy (w2.alloc (.cells Tryz.zeroCells43 43)) none := grownBy_trans n1.g (grownBy_trans n2.g n3.g)
  have r1 := (n1.r.new n2.g).new n3.g
  have r2 := n2.r.new n3.g
  have r3 := n3.r
  rw [s2, s1] at r3
  rw [s1] at r2
  have HL : Hid (InB L 8380417) := hL
  have HM : Hid (InB M 8380417) := hM
  clear hL hM
  go_enter Tryz.func116, Tryz.ntmps116
  go_wp2
  generalize w2.alloc (.cells Tryz.zeroCells43 43) = W3 at *
  clear n1 n2 n3 s1 s2
  go_loopw [5] (fun i wr => ∃ k : Nat, k ≤ 256 ∧ i = .int .i64 k ∧ w.grownBy wr none ∧ PRow .i64 wr w.heap.size 0 (fun j => if j < k then prodG L M j else L j) ∧ PRow .i64 wr (w.heap.size + 1) 0 M ∧ PRow .i64 wr (w.heap.size + 1 + 1) 0 (fun _ => 0)) (fun i _ => 256 - (intOf i).toNat)
  case atStart => exact ⟨0, by omega, rfl, g3, r1.ext (fun j _ => by simp), r2, r3⟩
  case round =>
    clear g3 r1 r2 r3
    obtain ⟨k, hk, rfl, hg, h1, h2, h3⟩ := hrel
    by_cases hlt : k < 256
    · have k0 : (0 : Int) ≤ (k : Int) := Int.natCast_nonneg k
      have k1 : (k : Int) < 256 := by omega
      have c1 := (h1.at0 k hlt).1
      have c2 := (h1.at0 k hlt).2
      have c3 := (h2.at0 k hlt).1
      rw [if_neg (Nat.lt_irrefl k)] at c1
      obtain ⟨a0, a1⟩ := HL.out k hlt
      obtain ⟨b0, b1⟩ := HM.out k hlt
      obtain ⟨e1, e2, e3⟩ := mulmod_val (L k) (M k) 8380417 a0 a1 b0 b1 (by omega)
      have HS : Hid (L k * M k % 8380417 = prodG L M k) := rfl
      obtain ⟨F, hF⟩ : ∃ F, F = L k := ⟨_, rfl⟩
      obtain ⟨G, hG⟩ : ∃ G, G = M k := ⟨_, rfl⟩
      rw [← hF] at c1 e1 e2 e3 a0 a1 HS
      rw [← hG] at c3 e1 e2 e3 b0 b1 HS
      clear hF hG
      go_wp2
      go_region
      rw [HS.out]
      have r4 := ((h1.set0 hlt (prodG L M k)).ext (fun j _ => mix_step (prodG L M) L k j)).drew
      have g4 := grown_drew (grown_setNew hg (p := ⟨w.heap.size, k, none⟩) (Nat.le_refl _) (.int .i64 (prodG L M k)))
      have o4 := (h2.set_other (p := ⟨w.heap.size, k, none⟩) (by show w.heap.size ≠ w.heap.size + 1; omega) (.int .i64 (prodG L M k))).drew
      have o5 := (h3.set_other (p := ⟨w.heap.size, k, none⟩) (by show w.heap.size ≠ w.heap.size + 1 + 1; omega) (.int .i64 (prodG L M k))).drew
      generalize (wr.setCell ⟨w.heap.size, k, none⟩ (.int .i64 (prodG L M k))).drew = W4 at *
      clear c1 c2 c3
      go_wp2
      exact ⟨⟨k + 1, by omega, by go_num, g4, r4, o4, o5⟩, by simp [intOf]; omega⟩
    · have hk6 : k = 256 := by omega
      subst hk6
      have r3 : PRow .i64 wr w.heap.size 0 (prodG L M) := h1.ext (fun j hj => by rw [if_pos hj])
      have ld := run_hidLd wr w.heap.size 0 _ r3
      have st := run_hidSt wr (w.heap.size + 1 + 1) (prodG L M) _ h3
      have p6 := put_cells .i64 wr (w.heap.size + 1 + 1) 0 (prodG L M) (h3.there .i64 _)
      clear h1 h2 h3
      go_wp2
      refine bodyPost_ret (v := .agg (polyA .i64 (prodG L M))) ?_ rfl ⟨rfl, grown_new hg p6.g (by omega)⟩
      exact res1 Tryz.results116 .i64 _ _ (w.heap.size + 1 + 1) _ rfl p6.r ⟨_, Tryz.uY⟩ Tryz.sY

theorem sm_head (f : Nat → Int) : ∀ n, sm (n + 1) f = f 0 + sm n (fun u => f (u + 1))
  | 0 => by simp [sm]
  | n + 1 => by
    have h := sm_head f n
    show sm (n + 1) f + f (n + 1) = f 0 + (sm n (fun u => f (u + 1)) + f (n + 1))
    omega
/-- Horner's sum from the coefficient t on. -/
def hor (L : Nat → Int) (y : Int) (t : Nat) : Int := sm (256 - t) (fun u => L (t + u) * y ^ u) % 8380417
theorem hor_range (L : Nat → Int) (y : Int) (t : Nat) : 0 ≤ hor L y t ∧ hor L y t < 8380417 := ⟨Int.emod_nonneg _ (by omega), Int.emod_lt_of_pos _ (by omega)⟩
theorem hor_step (L : Nat → Int) (y : Int) (t : Nat) (ht : t < 256) : (hor L y (t + 1) * y + L t) % 8380417 = hor L y t := by
  unfold hor
  rw [show 256 - t = (256 - (t + 1)) + 1 by omega, sm_head]
  have e : sm (256 - (t + 1)) (fun u => L (t + (u + 1)) * y ^ (u + 1)) = y * sm (256 - (t + 1)) (fun u => L (t + 1 + u) * y ^ u) := by
    rw [sm_mul]
    exact sm_ext _ _ _ fun u _ => by rw [show t + (u + 1) = t + 1 + u by omega, Int.pow_succ]; grind
  rw [e]
  generalize sm (256 - (t + 1)) (fun u => L (t + 1 + u) * y ^ u) = S
  refine Cg.mod_eq ?_
  exact (((cg_mod _ S).mul (Cg.refl _ y)).add (Cg.refl _ (L t))).trans (.of_eq (by simp; grind))
theorem hor_all (L : Nat → Int) (j : Nat) : hor L (yG j) 0 = rFwdG L j := by
  unfold hor rFwdG
  simp only [Nat.sub_zero, Nat.zero_add]
theorem hor_val (v y f : Int) (v0 : 0 ≤ v) (v1 : v < 8380417) (y0 : 0 ≤ y) (y1 : y < 8380417) (f0 : 0 ≤ f) (f1 : f < 8380417) :
    IntKind.i64.wrap (v * y) = v * y ∧ IntKind.i64.wrap (v * y + f) = v * y + f ∧ (v * y + f).tmod 8380417 = (v * y + f) % 8380417 := by
  obtain ⟨h0, h1⟩ := mul_bd v y 8380417 v0 v1 y0 y1 (by omega)
  exact ⟨by rw [IntKind.wrap_i64] <;> omega, by rw [IntKind.wrap_i64] <;> omega, Int.tmod_eq_emod_of_nonneg (by omega)⟩
theorem yG_range (b : Nat) (h : b < 256) : 0 ≤ yG b ∧ yG b < 8380417 := by
  have := yG_doc b h
  rw [this]
  omega
set_option maxHeartbeats 4000000 in
set_option maxRecDepth 20000 in
theorem rfwdG_any (L : Nat → Int) (hL : InB L 8380417) (w : World) :
    Calls Tryz.prog 112 #[.agg (polyA .i64 L)] w fun e w' => e = .returned (.agg (polyA .i64 (rFwdG L))) ∧ w.grownBy w' none := by
  have n1 := new_alloc .i64 w L 43
  generalize hw1 : w.alloc (.cells (polyA .i64 L) 43) = w1 at n1
  have n2 := new_alloc .i64 w1 (fun _ => 0) 43
  rw [← Tryz.zY] at n2
  generalize hw2 : w1.alloc (.cells Tryz.zeroCells43 43) = w2 at n2
  have n3 := new_alloc .i64 w2 (fun _ => 0) 43
  rw [← Tryz.zY] at n3
  have s1 := n1.s
  have s2 := n2.s
  have g3 : w.grownBy (w2.alloc (.cells Tryz.zeroCells43 43)) none := grownBy_trans n1.g (grownBy_trans n2.g n3.g)
  have r1 := (n1.r.new n2.g).new n3.g
  have r2 := n2.r.new n3.g
  have r3 := n3.r
  rw [s2, s1] at r3
  rw [s1] at r2
  have HL : Hid (InB L 8380417) := hL
  have HRt := hidz rootOf_any
  clear hL
  go_enter Tryz.func112, Tryz.ntmps112
  go_wp2
  generalize w2.alloc (.cells Tryz.zeroCells43 43) = W3 at *
  clear n1 n2 n3 s1 s2
  go_loopw [4] (fun i wr => ∃ k : Nat, k ≤ 256 ∧ i = .int .i64 k ∧ w.grownBy wr none ∧ PRow .i64 wr w.heap.size 0 L ∧ PRow .i64 wr (w.heap.size + 1) 0 (fun _ => 0) ∧ PRow .i64 wr (w.heap.size + 1 + 1) 0 (fun j => if j < k then rFwdG L j else 0)) (fun i _ => 256 - (intOf i).toNat)
  case atStart => exact ⟨0, by omega, rfl, g3, r1, r2, r3.ext (fun j _ => by simp)⟩
  case round =>
    clear g3 r1 r2 r3
    obtain ⟨k, hk, rfl, hg, h1, h2, h3⟩ := hrel
    by_cases hlt : k < 256
    · have k0 : (0 : Int) ≤ (k : Int) := Int.natCast_nonneg k
      have k1 : (k : Int) < 256 := by omega
      obtain ⟨y0, y1⟩ := yG_range k hlt
      have HC := hidz (HRt.out k hlt wr)
      go_wp2_with fail
      refine HC.out.mono ?_
      rintro e w8 ⟨rfl, rfl⟩
      clear HC
      obtain ⟨Y, HY⟩ : ∃ Y, Hid (Y = yG k) := ⟨_, rfl⟩
      rw [← HY.out] at y0 y1 ⊢
      go_wp2
      go_loopw [6, 7] (fun v j wr => ∃ (t : Nat) (v' : Int), t ≤ 256 ∧ j = .int .i64 ((t : Int) - 1) ∧ v = .int .i64 v' ∧ Hid (v' = hor L Y t) ∧ wr = w8) (fun _ j _ => (intOf j + 1).toNat)
      case atStart => exact ⟨256, 0, by omega, rfl, rfl, (by show (0 : Int) = hor L Y 256; rfl), rfl⟩
      case round =>
        obtain ⟨t, v, ht, rfl, rfl, HV, rfl⟩ := hrel
        by_cases hlt2 : 0 < t
        · obtain ⟨u, rfl⟩ : ∃ u, t = u + 1 := ⟨t - 1, by omega⟩
          rw [show ((u + 1 : Nat) : Int) - 1 = (u : Int) by omega]
          have u0 : (0 : Int) ≤ (u : Int) := Int.natCast_nonneg u
          have u1 : (u : Int) < 256 := by omega
          have hu : u < 256 := by omega
          have u2 : IntKind.i64.wrap ((u : Int) - 1) = (u : Int) - 1 := by rw [IntKind.wrap_i64] <;> omega
          have c1 := (h1.at0 u hu).1
          obtain ⟨a0, a1⟩ := HL.out u hu
          have v0 : 0 ≤ v := by rw [HV.out]; exact (hor_range L Y (u + 1)).1
          have v1 : v < 8380417 := by rw [HV.out]; exact (hor_range L Y (u + 1)).2
          obtain ⟨e1, e2, e3⟩ := hor_val v Y (L u) v0 v1 y0 y1 a0 a1
          have HS : Hid ((v * Y + L u) % 8380417 = hor L Y u) := by
            show _ = _
            rw [HV.out]; exact hor_step L Y u hu
          obtain ⟨F, hF⟩ : ∃ F, F = L u := ⟨_, rfl⟩
          rw [← hF] at c1 e2 e3 a0 a1 HS
          clear hF
          go_wp2
          exact ⟨⟨u, _, by omega, rfl, rfl, HS, trivial⟩, by simp [intOf]⟩
        · obtain rfl : t = 0 := by omega
          have HS : Hid (v = rFwdG L k) := by
            show _ = _
            rw [HV.out, HY.out]; exact hor_all L k
          have c1 := (h3.at0 k hlt).1
          have c2 := (h3.at0 k hlt).2
          rw [show ((0 : Nat) : Int) - 1 = -1 by omega]
          go_wp2
          have r4 := (h3.set0 hlt (rFwdG L k)).ext (fun j _ => mix_step (rFwdG L) (fun _ => 0) k j)
          rw [← HS.out] at r4
          exact ⟨⟨k + 1, by omega, by go_num, grown_setNew hg (by show w.heap.size ≤ w.heap.size + 1 + 1; omega) _, h1.set_other (by show w.heap.size + 1 + 1 ≠ w.heap.size; omega) _, h2.set_other (by show w.heap.size + 1 + 1 ≠ w.heap.size + 1; omega) _, r4⟩, by simp [intOf]; omega⟩
    · have hk6 : k = 256 := by omega
      subst hk6
      have r3 : PRow .i64 wr (w.heap.size + 1 + 1) 0 (rFwdG L) := h3.ext (fun j hj => by rw [if_pos hj])
      have ld := run_hidLd wr (w.heap.size + 1 + 1) 0 _ r3
      have st := run_hidSt wr (w.heap.size + 1) (rFwdG L) _ h2
      have p6 := put_cells .i64 wr (w.heap.size + 1) 0 (rFwdG L) (h2.there .i64 _)
      clear h1 h2 h3
      go_wp2
      refine bodyPost_ret (v := .agg (polyA .i64 (rFwdG L))) ?_ rfl ⟨rfl, grown_new hg p6.g (by omega)⟩
      exact res1 Tryz.results112 .i64 _ _ (w.heap.size + 1) _ rfl p6.r ⟨_, Tryz.uY⟩ Tryz.sY
end Go.Proofs.YtikcbdpijjafjaaGreatDoor.Z
