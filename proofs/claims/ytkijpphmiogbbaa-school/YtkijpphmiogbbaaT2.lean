import Derived.Test.YtkijpphmiogbbaaT1
namespace Go.Proofs.Ytkijpphmiogbbaa
open Go.RowKit
attribute [local go_sem ↓] Go.wp_at_zero Go.wp_at_succ

theorem prod_lo (F G : Nat → Int) (P a e c d r : Nat) (ea : F (2 * P) = (a : Int)) (ee : F (2 * P + 1) = (e : Int)) (ec : G (2 * P) = (c : Int)) (ed : G (2 * P + 1) = (d : Int)) (er : yS P = (r : Int)) :
    (((a * c + e * d % 3329 * r) % 3329 : Nat) : Int) = prodS F G (2 * P) := by
  unfold prodS
  rw [if_pos (by omega), ea, ee, ec, ed, show 2 * P / 2 = P by omega, er]; simp
theorem prod_hi (F G : Nat → Int) (P a e c d : Nat) (ea : F (2 * P) = (a : Int)) (ee : F (2 * P + 1) = (e : Int)) (ec : G (2 * P) = (c : Int)) (ed : G (2 * P + 1) = (d : Int)) :
    (((a * d + e * c) % 3329 : Nat) : Int) = prodS F G (2 * P + 1) := by
  unfold prodS
  rw [if_neg (by omega), Nat.add_sub_cancel, ea, ee, ec, ed]; simp
theorem natOf {x : Int} (h : 0 ≤ x ∧ x < 3329) : ∃ n : Nat, x = (n : Int) ∧ n < 3329 := ⟨x.toNat, (Int.toNat_of_nonneg h.1).symm, by omega⟩
/-- The pair number P, by the row. -/
theorem pair_row (b B C : Nat) (z : Nat → Int) (sc : Int) (F G : Nat → Int) (P r : Nat) (w : World) (hP : P < 128) (hR : Rg16 w b z sc) (hF : PRow .u16 w B 0 (pairTo F G P)) (hG : PRow .u16 w C 0 G) (hbB : b ≠ B) (hCB : C ≠ B)
    (hF0 : ∀ i, i < 256 → 0 ≤ F i ∧ F i < 3329) (hG0 : ∀ i, i < 256 → 0 ≤ G i ∧ G i < 3329) (er : yS P = (r : Int)) :
    Calls Try.prog 68 #[.pointer (some ⟨b, 0, none⟩), .pointer (some ⟨B, 0, none⟩), .pointer (some ⟨C, 0, none⟩), .int .i64 ((2 * P : Nat) : Int), .int .u16 r] w fun x w' => x = .returned (.tuple #[]) ∧ w.grownBy w' (some B) ∧ PRow .u16 w' B 0 (pairTo F G (P + 1)) := by
  obtain ⟨a, ea, la⟩ := natOf (hF0 (2 * P) (by omega))
  obtain ⟨e, ee, le⟩ := natOf (hF0 (2 * P + 1) (by omega))
  obtain ⟨c, ec, lc⟩ := natOf (hG0 (2 * P) (by omega))
  obtain ⟨d, ed, ld⟩ := natOf (hG0 (2 * P + 1) (by omega))
  have hr := yS_range P hP
  rw [er] at hr
  have hat := pairTo_at F G P
  refine (pair_any b B C z sc (pairTo F G P) G (2 * P) r w hR hF hG hbB hCB (by omega) (by omega) a e c d (hat.1.trans ea) (hat.2.trans ee) ec ed la le lc ld).mono ?_
  rintro x w' ⟨rfl, g, h⟩
  refine ⟨rfl, g, h.ext (fun j _ => ?_)⟩
  rw [prod_lo F G P a e c d r ea ee ec ed er, prod_hi F G P a e c d ea ee ec ed]
  exact pairTo_step F G P j

set_option maxHeartbeats 2000000 in
set_option maxRecDepth 20000 in
theorem pairByPair_any (b : Nat) (sc : Int) (F G : Nat → Int) (w : World) (hR : Rg16 w b zetS sc) (hF0 : ∀ i, i < 256 → 0 ≤ F i ∧ F i < 3329) (hG0 : ∀ i, i < 256 → 0 ≤ G i ∧ G i < 3329) :
    Calls Try.prog 59 #[.pointer (some ⟨b, 0, none⟩), .agg (polyA .u16 F), .agg (polyA .u16 G)] w fun e w' => e = .returned (.agg (polyA .u16 (prodS F G))) ∧ w.grownBy w' none := by
  have HF0 := hid_of hF0
  have HG0 := hid_of hG0
  clear hF0 hG0
  have hbw : b < w.heap.size := by have := cell_lt hR.q; simpa using this
  have n1 := new_alloc .u16 w F 44
  have n2 := new_alloc .u16 (w.alloc (.cells (polyA .u16 F) 44)) G 44
  have n3 := new_alloc .u16 ((w.alloc (.cells (polyA .u16 F) 44)).alloc (.cells (polyA .u16 G) 44)) (fun _ => 0) 44
  rw [← Try.zQ16] at n3
  go_enter Try.func59, Try.ntmps59
  go_wp2
  generalize ((w.alloc (.cells (polyA .u16 F) 44)).alloc (.cells (polyA .u16 G) 44)).alloc (.cells Try.zeroCells44 44) = w3 at *
  have hF : PRow .u16 w3 w.heap.size 0 F := (n1.r.new n2.g).new n3.g
  have hG : PRow .u16 w3 (w.heap.size + 1) 0 G := by have := n2.r.new n3.g; rw [n1.s] at this; exact this
  have hA : PRow .u16 w3 (w.heap.size + 1 + 1) 0 (fun _ => 0) := by have := n3.r; rw [n2.s, n1.s] at this; exact this
  have hg : w.grownBy w3 none := grownBy_trans n1.g (grownBy_trans n2.g n3.g)
  have hR3 := hR.new hg
  clear n1 n2 n3 hR
  obtain ⟨B, hB⟩ : ∃ B, B = w.heap.size := ⟨_, rfl⟩
  rw [← hB] at hA hF hG ⊢
  have hB' : w.heap.size ≤ B := by omega
  have hbB : b < B := by omega
  clear hB hbw
  go_loopw [8, 9, 11] (fun _ _ i wr => ∃ k : Nat, k ≤ 64 ∧ i = .int .i64 k ∧ w.grownBy wr none ∧ Rg16 wr b zetS sc ∧ PRow .u16 wr (B + 1) 0 G ∧ PRow .u16 wr (B + 1 + 1) 0 (fun _ => 0) ∧ PRow .u16 wr B 0 (pairTo F G (2 * k))) (fun _ _ i _ => 64 - (intOf i).toNat)
  case atStart => exact ⟨0, by omega, rfl, hg, hR3, hG, hA, hF.ext (fun j _ => by unfold pairTo; rw [if_neg (by omega)])⟩
  case round =>
    clear hF hG hA hg hR3
    obtain ⟨k, hk, rfl, hg, hR, hG, hA, hF⟩ := hrel
    by_cases hlt : k < 64
    · have b0 : (0 : Int) ≤ (k : Int) := by omega
      have b1 : (k : Int) < 64 := by omega
      have cz := (hR.zetas (64 + k) (by omega)).1
      have y1 : yS (2 * k) = zetS (64 + k) := by unfold yS; rw [if_pos (by omega), show 2 * k / 2 = k by omega]
      have y2 : yS (2 * k + 1) = 3329 - zetS (64 + k) := by unfold yS; rw [if_neg (by omega), show (2 * k + 1) / 2 = k by omega]
      obtain ⟨zz, hzz, lz⟩ := natOf (yS_range (2 * k) (by omega))
      obtain ⟨zm, hzm, lm⟩ := natOf (yS_range (2 * k + 1) (by omega))
      rw [← y1, hzz] at cz
      have em : (3329 : Int) - (zz : Int) = (zm : Int) := by rw [← hzz, ← hzm, y1, y2]
      have wm : IntKind.u16.wrap ((3329 : Int) - (zz : Int)) = (zm : Int) := by rw [em, IntKind.wrap_u16]; omega
      have t1 : ((64 : Int) + (k : Int)).toNat = 64 + k := by omega
      have hq := hR.q
      have HP1 := hid_of (fun W hW hFW hGW => pair_row b B (B + 1) zetS sc F G (2 * k) zz W (by omega) hW hFW hGW (by omega) (by omega) HF0.out HG0.out hzz)
      have HP2 := hid_of (fun W hW hFW hGW => pair_row b B (B + 1) zetS sc F G (2 * k + 1) zm W (by omega) hW hFW hGW (by omega) (by omega) HF0.out HG0.out hzm)
      rw [show ((2 * (2 * k) : Nat) : Int) = 4 * (k : Int) by omega] at HP1
      rw [show ((2 * (2 * k + 1) : Nat) : Int) = 4 * (k : Int) + 2 by omega] at HP2
      clear y1 y2 hzz hzm
      go_wp2_with fail
      refine (HP1.out wr hR hF hG).mono ?_
      rintro _ w4 ⟨rfl, g4, hF4⟩
      have hR4 := hR.far g4 (by simp; omega)
      have hG4 := hG.far g4 (by simp)
      have hA4 := hA.far g4 (by simp; omega)
      have hg4 := grown_new hg g4 hB'
      have hq4 := hR4.q
      clear hR hG hA hg hF g4 hq cz
      go_wp2_with fail
      refine (HP2.out w4 hR4 hF4 hG4).mono ?_
      rintro _ w5 ⟨rfl, g5, hF5⟩
      have hR5 := hR4.far g5 (by simp; omega)
      have hG5 := hG4.far g5 (by simp)
      have hA5 := hA4.far g5 (by simp; omega)
      have hg5 := grown_new hg4 g5 hB'
      clear hR4 hG4 hA4 hg4 hF4 g5 hq4
      go_wp2
      exact ⟨⟨k + 1, by omega, by go_num, hg5, hR5, hG5, hA5, hF5⟩, by simp [intOf]; omega⟩
    · have hk6 : k = 64 := by omega
      subst hk6
      have hR' : PRow .u16 wr B 0 (prodS F G) := hF.ext (fun j hj => by unfold pairTo; rw [if_pos (by omega)])
      clear hF
      go_wp2_with (first | (refine wpL_load rfl .u16 44 _ rfl B 0 rfl _ hR' Try.oQ16 Try.sQ16 ?_) | (refine wpL_store rfl .u16 44 _ _ rfl (B + 1 + 1) 0 rfl _ rfl .u16 _ hA Try.sQ16 ?_; intro w4 p4))
      refine bodyPost_ret (res1 rfl .u16 _ w4 (B + 1 + 1) _ rfl p4.r Try.oQ16 Try.sQ16) rfl ⟨rfl, grown_new hg p4.g (by omega)⟩
end Go.Proofs.Ytkijpphmiogbbaa
