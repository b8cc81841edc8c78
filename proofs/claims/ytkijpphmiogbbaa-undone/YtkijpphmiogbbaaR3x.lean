import Derived.Test.YtkijpphmiogbbaaR2x
import Derived.Test.YtkijpphmiogbbaaN5
import Derived.Test.YtkijpphmiogbbaaL5
namespace Go.Proofs.Ytkijpphmiogbbaa
open Go.RowKit
attribute [local go_sem ↓] Go.wp_at_zero Go.wp_at_succ

set_option maxHeartbeats 1000000 in
theorem invC16_any (C b : Nat) (z : Nat → Int) (x s : Nat) (w : World) (hR : Rg16 w b z (s : Int)) (hc : w.cell? ⟨C, 0, none⟩ = some (.pointer (some ⟨b, 0, none⟩))) (hx : x < 3329) (hs : s < 3329) :
    Calls Try.prog 55 #[.int .u16 x, .pointer (some ⟨C, 0, none⟩)] w fun e w' => e = .returned (.int .u16 ((x * s % 3329 : Nat) : Int)) ∧ w.grownBy w' none := by
  have hsc := hR.scale.1
  have HT := hid_of (times16_any b z s x s w.drew hR.drew hx hs)
  go_enter Try.func55, Try.ntmps55
  go_wp2
  go_region_with (first | (go_at_call 49; refine HT.out.mono ?_; rintro _ w' ⟨rfl, hw⟩; rw [hw]; clear hw w'))
  all_goals (
    go_wp2
    go_ret
    exact ⟨rfl, grown_drew (World.grownBy.refl _ _)⟩)

set_option maxHeartbeats 4000000 in
set_option maxRecDepth 20000 in
theorem inv16_any (b : Nat) (z : Nat → Int) (s : Nat) (L : Nat → Int) (w : World) (hR : Rg16 w b z (s : Int)) (hs : s < 3329) (hz : ∀ i, i < 256 → 0 ≤ z i ∧ z i < 3329) (hL : ∀ i, i < 256 → 0 ≤ L i ∧ L i < 3329) :
    Calls Try.prog 34 #[.pointer (some ⟨b, 0, none⟩), .agg (polyA .u16 L)] w fun e w' => e = .returned (.agg (polyA .u16 (fun i => invN 3329 z 7 L i * (s : Int) % 3329))) ∧ w.grownBy w' none := by
  have HZ := hid_of hz
  have HL := hid_of hL
  clear hz hL
  have hbw : b < w.heap.size := by have := cell_lt hR.q; simpa using this
  have n0 := World.grownBy_alloc w (.cells #[.pointer (some ⟨b, 0, none⟩)] 50) none
  have c0 : (w.alloc (.cells #[.pointer (some ⟨b, 0, none⟩)] 50)).cell? ⟨w.heap.size, 0, none⟩ = some (.pointer (some ⟨b, 0, none⟩)) := by rw [World.cell?_alloc_new]; rfl
  have s0 := World.size_alloc w (.cells #[.pointer (some ⟨b, 0, none⟩)] 50)
  have n1 := new_alloc .u16 (w.alloc (.cells #[.pointer (some ⟨b, 0, none⟩)] 50)) L 44
  have n2 := new_alloc .u16 ((w.alloc (.cells #[.pointer (some ⟨b, 0, none⟩)] 50)).alloc (.cells (polyA .u16 L) 44)) (fun _ => 0) 44
  rw [← Try.zQ16] at n2
  have hR2 := ((hR.new n0).new n1.g).new n2.g
  have cP := n2.g.cell (n1.g.cell c0 (by simp)) (by simp)
  have hleaf := hR2.leaf
  go_enter Try.func34, Try.ntmps34
  go_wp2
  generalize ((w.alloc (.cells #[.pointer (some ⟨b, 0, none⟩)] 50)).alloc (.cells (polyA .u16 L) 44)).alloc (.cells Try.zeroCells44 44) = w2 at *
  have hF : PRow .u16 w2 (w.heap.size + 1) 0 L := by have := n1.r.new n2.g; rw [s0] at this; exact this
  have hA : PRow .u16 w2 (w.heap.size + 1 + 1) 0 (fun _ => 0) := by have := n2.r; rw [n1.s, s0] at this; exact this
  have hg : w.grownBy w2 none := grownBy_trans n0 (grownBy_trans n1.g n2.g)
  clear n0 n1 n2 hR c0 s0 hleaf
  obtain ⟨C, hC⟩ : ∃ C, C = w.heap.size := ⟨_, rfl⟩
  rw [← hC] at hA hF cP ⊢
  have hC' : w.heap.size ≤ C := by omega
  have hbC : b < C := by omega
  clear hC hbw
  go_loopw [5, 6, 7, 8, 9, 10, 11] (fun nx hf _ _ _ _ _ wr => ∃ (l p : Nat) (R : Nat → Int), l ≤ 7 ∧ nx = .int .i64 p ∧ hf = .int .i64 ((256 / 2 ^ l : Nat) : Int) ∧ Hid (p + 1 = 2 ^ l ∧ invN 3329 z l R = invN 3329 z 7 L ∧ ∀ i, i < 256 → 0 ≤ R i ∧ R i < 3329) ∧ w.grownBy wr none ∧ wr.cell? ⟨C, 0, none⟩ = some (.pointer (some ⟨b, 0, none⟩)) ∧ Rg16 wr b z (s : Int) ∧ PRow .u16 wr (C + 1 + 1) 0 (fun _ => 0) ∧ PRow .u16 wr (C + 1) 0 R) (fun nx _ _ _ _ _ _ _ => (intOf nx).toNat)
  case atStart => exact ⟨7, 128 - 1, L, by omega, rfl, rfl, ⟨rfl, rfl, HL.out⟩, hg, cP, hR2, hA, hF⟩
  case round =>
    clear hA hF hg hR2 cP
    obtain ⟨l, p, R, hl, rfl, rfl, HI, hg, cP, hR, hA, hF⟩ := hrel
    by_cases hlt : 0 < l
    · obtain ⟨m, rfl⟩ : ∃ m, l = m + 1 := ⟨l - 1, by omega⟩
      obtain ⟨h, k, hk, hh0, hk8, eh, ek, hge, hle⟩ := lay_nums16 m (by omega)
      have e256 : 256 / 2 ^ (m + 1) = h := by
        rw [← eh, Nat.pow_succ, Nat.mul_comm, ← Nat.div_div_eq_div_mul]
      have HLay := hid_of (show invN 3329 z (m + 1) R = invN 3329 z m (layI 3329 z (128 / 2 ^ m) (2 ^ m) R) from rfl)
      rw [eh, ek] at HLay
      rw [e256]
      have HP1 : Hid (p + 1 = 2 * k) := by
        show _ = _
        have := HI.out.1
        rw [Nat.pow_succ, ek] at this
        omega
      have hk1 : 0 < k := by
        rcases Nat.eq_zero_or_pos k with e | e
        · rw [e] at hk; simp at hk
        · exact e
      have HM0 : Hid (∀ i, i < 256 → 0 ≤ R i ∧ R i < 3329) := HI.out.2.2
      have HIN := hid_of HI.out.2.1
      clear HI
      have hh1 : (h : Int) ≤ 128 := by omega
      have hh2 : (h : Int) < 256 := by omega
      go_wp2
      go_loopw [5, 7, 8, 9, 10, 11] (fun nx fr _ _ _ _ wv => ∃ x f c : Nat, c ≤ k ∧ nx = .int .i64 x ∧ fr = .int .i64 f ∧ Hid (x + c + 1 = 2 * k ∧ f = 2 * h * c) ∧ w.grownBy wv none ∧ wv.cell? ⟨C, 0, none⟩ = some (.pointer (some ⟨b, 0, none⟩)) ∧ Rg16 wv b z (s : Int) ∧ PRow .u16 wv (C + 1 + 1) 0 (fun _ => 0) ∧ PRow .u16 wv (C + 1) 0 (layITo 3329 z h k R (c * h))) (fun _ fr _ _ _ _ _ => 256 - (intOf fr).toNat)
      case atStart => exact ⟨p, 0, 0, by omega, rfl, rfl, ⟨by have := HP1.out; omega, by simp⟩, hg, cP, hR, hA, hF.ext (fun j _ => by rw [Nat.zero_mul, layITo_zero])⟩
      case round =>
        clear hg hR hA hF cP
        obtain ⟨x, f, c, hck, rfl, rfl, HXF, hg, cP, hR, hA, hF⟩ := hrel
        by_cases hc : c < k
        · obtain ⟨hxf1, hxf2⟩ := HXF.out
          have hcc : 2 * h * c + 2 * h ≤ 256 := by rw [← hk, ← Nat.mul_succ]; exact Nat.mul_le_mul_left _ hc
          have hx : x < 256 := by omega
          have hx1 : 1 ≤ x := by omega
          have hf : f + 2 * h ≤ 256 := by omega
          have x0 : (0 : Int) ≤ (x : Int) := by omega
          have x1 : (x : Int) < 256 := by omega
          have f0 : (0 : Int) ≤ (f : Int) := by omega
          have f1 : (f : Int) < 256 := by omega
          have cz := (hR.zetas x hx).1
          obtain ⟨zz, hzz⟩ : ∃ zz : Nat, z x = (zz : Int) := ⟨(z x).toNat, (Int.toNat_of_nonneg (HZ.out x hx).1).symm⟩
          have hzl : zz < 3329 := by have := (HZ.out x hx).2; omega
          rw [hzz] at cz
          have HZZ := hid_of hzz
          clear hzz hxf1 hxf2 hcc
          go_wp2
          go_loopw [9, 10, 11] (fun i _ _ wu => ∃ y t : Nat, t ≤ h ∧ i = .int .i64 y ∧ Hid (y = f + t) ∧ w.grownBy wu none ∧ wu.cell? ⟨C, 0, none⟩ = some (.pointer (some ⟨b, 0, none⟩)) ∧ Rg16 wu b z (s : Int) ∧ PRow .u16 wu (C + 1 + 1) 0 (fun _ => 0) ∧ PRow .u16 wu (C + 1) 0 (layITo 3329 z h k R (c * h + t))) (fun i _ _ _ => 256 - (intOf i).toNat)
          case atStart => exact ⟨f, 0, by omega, rfl, rfl, hg, cP, hR, hA, hF⟩
          case round =>
            clear hg hR hA hF cz cP
            obtain ⟨y, t, hth, rfl, HY, hg, cP, hR, hA, hF⟩ := hrel
            have hyt : y = f + t := HY.out
            by_cases ht : t < h
            · have hy : y + h < 256 := by omega
              have c1 := hF.at0 y (by omega)
              have c2 := hF.at0 (y + h) hy
              have HE := hid_of (show y = 2 * h * c + t by have := HXF.out.2; omega)
              rw [HE.out, (layITo_at 3329 z h k R c t ht).1, ← HE.out] at c1
              rw [HE.out, (layITo_at 3329 z h k R c t ht).2, ← HE.out] at c2
              obtain ⟨a, ha⟩ : ∃ a : Nat, R y = (a : Int) := ⟨(R y).toNat, (Int.toNat_of_nonneg (HM0.out y (by omega)).1).symm⟩
              obtain ⟨e, he⟩ : ∃ e : Nat, R (y + h) = (e : Int) := ⟨(R (y + h)).toNat, (Int.toNat_of_nonneg (HM0.out (y + h) hy).1).symm⟩
              have hal : a < 3329 := by have := (HM0.out y (by omega)).2; omega
              have hel : e < 3329 := by have := (HM0.out (y + h) hy).2; omega
              rw [ha] at c1
              rw [he] at c2
              have d1 := c1.1
              have d1f := c1.2
              have d2 := c2.1
              have d2f := c2.2
              have HA := hid_of ha
              have HEE := hid_of he
              obtain ⟨g, hgm⟩ : ∃ g : Nat, ((e : Int) - (a : Int)) % 3329 = (g : Int) := ⟨(((e : Int) - (a : Int)) % 3329).toNat, (Int.toNat_of_nonneg (Int.emod_nonneg _ (by omega))).symm⟩
              have hgl : g < 3329 := by have := Int.emod_lt_of_pos ((e : Int) - (a : Int)) (show (0 : Int) < 3329 by omega); omega
              obtain ⟨vp, hvp⟩ : ∃ vp : Int, vp = ((a : Int) + (e : Int)) % 3329 := ⟨_, rfl⟩
              obtain ⟨vm, hvm⟩ : ∃ vm : Nat, vm = zz * g % 3329 := ⟨_, rfl⟩
              have HP : Hid (∀ W, Rg16 W b z (s : Int) → Calls Try.prog 50 #[.pointer (some ⟨b, 0, none⟩), .int .u16 a, .int .u16 e] W fun r w' => r = .returned (.int .u16 vp) ∧ w' = W) := fun W hW => by rw [hvp]; exact plus16_any b z s a e W hW hal hel
              have HMi : Hid (∀ W, Rg16 W b z (s : Int) → Calls Try.prog 51 #[.pointer (some ⟨b, 0, none⟩), .int .u16 e, .int .u16 a] W fun r w' => r = .returned (.int .u16 g) ∧ w' = W) := fun W hW => by rw [← hgm]; exact minus16_any b z s e a W hW hel hal
              have HT : Hid (∀ W, Rg16 W b z (s : Int) → Calls Try.prog 49 #[.pointer (some ⟨b, 0, none⟩), .int .u16 zz, .int .u16 g] W fun r w' => r = .returned (.int .u16 vm) ∧ w' = W) := fun W hW => by rw [hvm]; exact times16_any b z s zz g W hW hzl hgl
              have y0 : (0 : Int) ≤ (y : Int) := by omega
              have y1 : (y : Int) < 256 := by omega
              have y2 : (0 : Int) ≤ (y : Int) + (h : Int) := by omega
              have y3 : (y : Int) + (h : Int) < 256 := by omega
              have w1 : IntKind.i64.wrap ((y : Int) + (h : Int)) = (y : Int) + (h : Int) := by rw [IntKind.wrap_i64] <;> omega
              have t1 : ((y : Int) + (h : Int)).toNat = y + h := by omega
              have lt1 : (y : Int) < (f : Int) + (h : Int) := by omega
              have hne : ¬ y = y + h := by omega
              have hne2 : ¬ y + h = y := by omega
              have hCn : ¬ C = C + 1 := by omega
              have hCn2 : ¬ C + 1 = C := by omega
              have HV1 : Hid (vp = layI 3329 z h k R (2 * h * c + t)) := by
                show _ = _
                rw [layI_lo 3329 z h k R c t ht, ← HE.out, hvp, HA.out, HEE.out]
              have HV2 : Hid ((vm : Int) = layI 3329 z h k R (2 * h * c + t + h)) := by
                show _ = _
                rw [layI_hi 3329 z h k R c t ht, ← HE.out, show 2 * k - 1 - c = x by have := HXF.out.1; omega, HA.out, HEE.out, HZZ.out, hgm, hvm]; simp
              clear hvp hvm hgm ha he c1 c2 hyt
              go_wp2
              go_region
              go_wp2
              go_region_with (first | (go_at_call 50; refine (HP.out _ hR.drew.drew).mono ?_; rintro _ w' ⟨rfl, hw⟩; rw [hw]; clear hw w') | (go_at_call 51; refine (HMi.out _ hR.drew.drew).mono ?_; rintro _ w' ⟨rfl, hw⟩; rw [hw]; clear hw w') | (go_at_call 49; refine (HT.out _ hR.drew.drew).mono ?_; rintro _ w' ⟨rfl, hw⟩; rw [hw]; clear hw w'))
              all_goals (
                go_wp2
                refine ⟨⟨y + 1, t + 1, by omega, by go_num, ?_, grown_drew (grown_drew (grown_setNew (grown_setNew hg (by simp; omega) _) (by simp; omega) _)), ?_, (((hR.far (grown_setOne16 _ _ _) (by simp; omega)).far (grown_setOne16 _ _ _) (by simp; omega)).drew).drew, (((hA.set_other (by simp) _).set_other (by simp) _).drew).drew, ?_⟩, by simp [intOf]; omega⟩
                · show y + 1 = f + (t + 1); have := HY.out; omega
                · exact (((grown_setOne16 _ _ _).cell ((grown_setOne16 _ _ _).cell cP (by simp)) (by simp)))
                · refine ((((hF.set0 (i := y) (by omega) vp).set0 (i := y + h) hy vm).drew).drew).ext (fun j _ => ?_)
                  rw [HV1.out, HV2.out, HE.out]
                  exact layITo_step 3329 z h k R c t ht j)
            · have hth2 : t = h := by omega
              subst hth2
              have d1 : decide ((y : Int) < (f : Int) + (t : Int)) = false := by simp; omega
              go_wp2
              refine ⟨⟨x - 1, f + 2 * t, c + 1, by omega, ?_, by go_num, ⟨by have := HXF.out.1; omega, by have := HXF.out.2; rw [Nat.mul_succ]; omega⟩, hg, cP, hR, hA, hF.ext (fun j _ => by rw [Nat.succ_mul])⟩, by simp [intOf]; omega⟩
              congr 1; omega
        · have hc2 : c = k := by omega
          subst hc2
          have hf6 : f = 256 := by have := HXF.out.2; omega
          subst hf6
          go_wp2
          refine ⟨⟨m, x, layI 3329 z h c R, by omega, rfl, ?_, ⟨by have := HXF.out.1; rw [ek]; omega, by rw [← HLay.out]; exact HIN.out, fun i _ => layI_range 3329 (by omega) z h c R i⟩, hg, cP, hR, hA, hF.ext (fun j hj => layITo_all 3329 z h c R hk hh0 j hj)⟩, ?_⟩
          · congr 1
            rw [← eh]
            have : ∀ m : Fin 7, 128 / 2 ^ m.val * 2 = 256 / 2 ^ m.val := by decide
            have := this ⟨m, by omega⟩
            simp only [] at this
            rw [← this]; simp
          · have h1 := HXF.out.1
            have h2 := HP1.out
            clear HLay HZ HL HM0 HXF
            simp only [intOf]
            omega
    · have hl0 : l = 0 := by omega
      subst hl0
      have HR0 : Hid (R = invN 3329 z 7 L) := HI.out.2.1
      have HM0 : Hid (∀ i, i < 256 → 0 ≤ R i ∧ R i < 3329) := HI.out.2.2
      have HMC : Hid (∀ i W, i < 256 → wr.grownBy W none → Calls Try.prog 55 (#[.int .u16 (R i)] ++ #[.pointer (some ⟨C, 0, none⟩)]) W fun e W' => e = .returned (.int .u16 (R i * (s : Int) % 3329)) ∧ W.grownBy W' none) := fun i W hi hgW => by
        obtain ⟨a, ha⟩ : ∃ a : Nat, R i = (a : Int) := ⟨(R i).toNat, (Int.toNat_of_nonneg (HM0.out i hi).1).symm⟩
        have hal : a < 3329 := by have := (HM0.out i hi).2; omega
        have h := invC16_any C b z a s W (hR.new hgW) (hgW.cell cP (by simp)) hal hs
        have e1 : ((a * s % 3329 : Nat) : Int) = (a : Int) * (s : Int) % 3329 := by simp
        rw [e1] at h
        rw [ha]
        exact h
      go_wp2_with (first | (refine wpL_load rfl .u16 44 _ rfl (C + 1) 0 rfl _ hF Try.oQ16 Try.sQ16 ?_) | (go_at_call 40; refine (each_inverse16 R (fun i => R i * (s : Int) % 3329) _ _ HMC.out).mono ?_; rintro e w3 ⟨rfl, g3⟩) | (refine wpL_store rfl .u16 44 _ _ rfl (C + 1 + 1) 0 rfl _ rfl .u16 _ (hA.new g3) Try.sQ16 ?_; intro w4 p4))
      refine bodyPost_ret (res1 rfl .u16 _ w4 (C + 1 + 1) _ rfl p4.r Try.oQ16 Try.sQ16) rfl ⟨by rw [HR0.out], grown_new (grownBy_trans hg g3) p4.g (by omega)⟩
end Go.Proofs.Ytkijpphmiogbbaa
