import Derived.Test.YtkijpphmiogbbaaS1x
import Derived.Test.YtkijpphmiogbbaaN4
namespace Go.Proofs.Ytkijpphmiogbbaa
open Go.RowKit
attribute [local go_sem ↓] Go.wp_at_zero Go.wp_at_succ

theorem grown_setOne32 (w : World) (p : Addr) (v : Value) : w.grownBy (w.setCell p v) (some p.block) :=
  ⟨rfl, rfl, rfl, by simp, fun k _ hr => Below.heap_setCell _ _ _ _ (fun e => hr (by simp [e]))⟩
set_option maxHeartbeats 4000000 in
set_option maxRecDepth 20000 in
theorem fwd32_any (b : Nat) (z : Nat → Int) (sc : Int) (L : Nat → Int) (w : World) (hR : Rg32 w b z sc) (hz : ∀ i, i < 256 → 0 ≤ z i ∧ z i < 8380417) (hL : ∀ i, i < 256 → 0 ≤ L i ∧ L i < 8380417) :
    Calls Try.prog 33 #[.pointer (some ⟨b, 0, none⟩), .agg (polyA .u32 L)] w fun e w' => e = .returned (.agg (polyA .u32 (fwdN 8380417 z 8 L))) ∧ w.grownBy w' none := by
  have HZ := hid_of32 hz
  have HL := hid_of32 hL
  clear hz hL
  have hbw : b < w.heap.size := by have := cell_lt hR.q; simpa using this
  have n1 := new_alloc .u32 w L 55
  have n2 := new_alloc .u32 (w.alloc (.cells (polyA .u32 L) 55)) (fun _ => 0) 55
  rw [← Try.zQ32] at n2
  go_enter Try.func33, Try.ntmps33
  go_wp2
  generalize (w.alloc (.cells (polyA .u32 L) 55)).alloc (.cells Try.zeroCells55 55) = w2 at *
  have hF : PRow .u32 w2 w.heap.size 0 L := n1.r.new n2.g
  have hA : PRow .u32 w2 (w.heap.size + 1) 0 (fun _ => 0) := by have := n2.r; rw [n1.s] at this; exact this
  have hg : w.grownBy w2 none := grownBy_trans n1.g n2.g
  have hR2 := hR.new hg
  clear n1 n2 hR
  obtain ⟨B, hB⟩ : ∃ B, B = w.heap.size := ⟨_, rfl⟩
  rw [← hB] at hA hF ⊢
  have hB' : w.heap.size ≤ B := by omega
  have hbB : b < B := by omega
  clear hB hbw
  go_loopw [5, 6, 7, 8, 9, 10] (fun nx hf _ _ _ _ wr => ∃ l : Nat, l ≤ 8 ∧ nx = .int .i64 ((2 ^ l : Nat) : Int) ∧ hf = .int .i64 ((128 / 2 ^ l : Nat) : Int) ∧ w.grownBy wr none ∧ Rg32 wr b z sc ∧ PRow .u32 wr (B + 1) 0 (fun _ => 0) ∧ PRow .u32 wr B 0 (fwdN 8380417 z l L)) (fun nx _ _ _ _ _ _ => 1000 - (intOf nx).toNat)
  case atStart => exact ⟨0, by omega, rfl, rfl, hg, hR2, hA, hF⟩
  case round =>
    clear hA hF hg hR2
    obtain ⟨l, hl, rfl, rfl, hg, hR, hA, hF⟩ := hrel
    have hleaf := hR.leaf
    by_cases hlt : l < 8
    · obtain ⟨h, k, hk, hh0, hk8, eh, ek, hge, hle⟩ := lay_nums32 l hlt
      have HLay := hid_of32 (show fwdN 8380417 z (l + 1) L = layF 8380417 z (128 / 2 ^ l) (2 ^ l) (fwdN 8380417 z l L) from rfl)
      have HM0 : Hid (∀ i, i < 256 → 0 ≤ fwdN 8380417 z l L i ∧ fwdN 8380417 z l L i < 8380417) := fwdN_range 8380417 (by omega) z L HL.out l
      rw [eh] at HLay ⊢
      rw [ek] at HLay ⊢
      generalize fwdN 8380417 z l L = M at *
      have hh1 : (h : Int) ≤ 128 := by omega
      have hge' : (1 : Int) ≤ (h : Int) := by omega
      clear hleaf
      have hleaf := hR.leaf
      go_wp2
      clear hleaf
      go_loopw [5, 7, 8, 9, 10] (fun nx fr _ _ _ wv => ∃ x f c : Nat, c ≤ k ∧ nx = .int .i64 x ∧ fr = .int .i64 f ∧ Hid (x = k + c ∧ f = 2 * h * c) ∧ w.grownBy wv none ∧ Rg32 wv b z sc ∧ PRow .u32 wv (B + 1) 0 (fun _ => 0) ∧ PRow .u32 wv B 0 (layTo 8380417 z h k M (c * h))) (fun _ fr _ _ _ _ => 256 - (intOf fr).toNat)
      case atStart => exact ⟨k, 0, 0, by omega, rfl, rfl, ⟨rfl, by simp⟩, hg, hR, hA, hF.ext (fun j _ => by rw [Nat.zero_mul, layTo_zero])⟩
      case round =>
        clear hg hR hA hF
        obtain ⟨x, f, c, hck, rfl, rfl, HXF, hg, hR, hA, hF⟩ := hrel
        by_cases hc : c < k
        · obtain ⟨hxf1, hxf2⟩ := HXF.out
          have hcc : 2 * h * c + 2 * h ≤ 256 := by rw [← hk, ← Nat.mul_succ]; exact Nat.mul_le_mul_left _ hc
          have hx : x < 256 := by omega
          have hf : f + 2 * h ≤ 256 := by omega
          have x0 : (0 : Int) ≤ (x : Int) := by omega
          have x1 : (x : Int) < 256 := by omega
          have f0 : (0 : Int) ≤ (f : Int) := by omega
          have f1 : (f : Int) < 256 := by omega
          have cz := (hR.zetas x hx).1
          obtain ⟨zz, hzz⟩ : ∃ zz : Nat, z x = (zz : Int) := ⟨(z x).toNat, (Int.toNat_of_nonneg (HZ.out x hx).1).symm⟩
          have hzl : zz < 8380417 := by have := (HZ.out x hx).2; omega
          rw [hzz] at cz
          have HZZ := hid_of32 hzz
          clear hzz hxf1 hxf2 hcc
          go_wp2
          go_loopw [9, 10] (fun i _ wu => ∃ y t : Nat, t ≤ h ∧ i = .int .i64 y ∧ Hid (y = f + t) ∧ w.grownBy wu none ∧ Rg32 wu b z sc ∧ PRow .u32 wu (B + 1) 0 (fun _ => 0) ∧ PRow .u32 wu B 0 (layTo 8380417 z h k M (c * h + t))) (fun i _ _ => 256 - (intOf i).toNat)
          case atStart => exact ⟨f, 0, by omega, rfl, rfl, hg, hR, hA, hF⟩
          case round =>
            clear hg hR hA hF cz
            obtain ⟨y, t, hth, rfl, HY, hg, hR, hA, hF⟩ := hrel
            have hyt : y = f + t := HY.out
            by_cases ht : t < h
            · have hy : y + h < 256 := by omega
              have c1 := hF.at0 y (by omega)
              have c2 := hF.at0 (y + h) hy
              have HE := hid_of32 (show y = 2 * h * c + t by have := HXF.out.2; omega)
              rw [HE.out, (layTo_at 8380417 z h k M c t ht).1, ← HE.out] at c1
              rw [HE.out, (layTo_at 8380417 z h k M c t ht).2, ← HE.out] at c2
              obtain ⟨a, ha⟩ : ∃ a : Nat, M y = (a : Int) := ⟨(M y).toNat, (Int.toNat_of_nonneg (HM0.out y (by omega)).1).symm⟩
              obtain ⟨e, he⟩ : ∃ e : Nat, M (y + h) = (e : Int) := ⟨(M (y + h)).toNat, (Int.toNat_of_nonneg (HM0.out (y + h) hy).1).symm⟩
              have hal : a < 8380417 := by have := (HM0.out y (by omega)).2; omega
              have hel : e < 8380417 := by have := (HM0.out (y + h) hy).2; omega
              rw [ha] at c1
              rw [he] at c2
              have d1 := c1.1
              have d1f := c1.2
              have d2 := c2.1
              have d2f := c2.2
              have HA := hid_of32 ha
              have HEE := hid_of32 he
              obtain ⟨g, hgm⟩ : ∃ g : Nat, g = zz * e % 8380417 := ⟨_, rfl⟩
              have hgl : g < 8380417 := by rw [hgm]; exact Nat.mod_lt _ (by omega)
              have HT := hid_of32 (times32_any b z sc zz e wr hR hzl hel)
              rw [← hgm] at HT
              have HG := hid_of32 hgm
              have HP := hid_of32 (plus32_any b z sc a g wr.drew hR.drew hal hgl)
              have HMi := hid_of32 (minus32_any b z sc a g wr.drew hR.drew hal hgl)
              have y0 : (0 : Int) ≤ (y : Int) := by omega
              have y1 : (y : Int) < 256 := by omega
              have y2 : (0 : Int) ≤ (y : Int) + (h : Int) := by omega
              have y3 : (y : Int) + (h : Int) < 256 := by omega
              have w1 : IntKind.i64.wrap ((y : Int) + (h : Int)) = (y : Int) + (h : Int) := by rw [IntKind.wrap_i64] <;> omega
              have t1 : ((y : Int) + (h : Int)).toNat = y + h := by omega
              have lt1 : (y : Int) < (f : Int) + (h : Int) := by omega
              have hne : ¬ y = y + h := by omega
              have hne2 : ¬ y + h = y := by omega
              obtain ⟨vp, hvp⟩ : ∃ vp : Int, vp = ((a : Int) + (g : Int)) % 8380417 := ⟨_, rfl⟩
              obtain ⟨vm, hvm⟩ : ∃ vm : Int, vm = ((a : Int) - (g : Int)) % 8380417 := ⟨_, rfl⟩
              rw [← hvp] at HP
              rw [← hvm] at HMi
              have HVP := hid_of32 hvp
              have HVM := hid_of32 hvm
              have HV1 : Hid (vp = layF 8380417 z h k M (2 * h * c + t)) := by
                show _ = _
                rw [layF_lo 8380417 z h k M c t ht, ← HE.out, ← HXF.out.1, hvp, HA.out, HEE.out, HZZ.out, HG.out]; simp
              have HV2 : Hid (vm = layF 8380417 z h k M (2 * h * c + t + h)) := by
                show _ = _
                rw [layF_hi 8380417 z h k M c t ht, ← HE.out, ← HXF.out.1, hvm, HA.out, HEE.out, HZZ.out, HG.out]; simp
              clear hvp hvm hgm ha he c1 c2 hyt
              go_wp2_with (first | (go_at_call 52; refine HT.out.mono ?_; rintro _ w' ⟨rfl, hw⟩; rw [hw]; clear hw w'))
              go_region_with (first | (go_at_call 53; refine HP.out.mono ?_; rintro _ w' ⟨rfl, hw⟩; rw [hw]; clear hw w') | (go_at_call 54; refine HMi.out.mono ?_; rintro _ w' ⟨rfl, hw⟩; rw [hw]; clear hw w'))
              all_goals (
                go_wp2
                refine ⟨⟨y + 1, t + 1, by omega, by go_num, ?_, grown_drew (grown_setNew (grown_setNew hg (by simp; omega) _) (by simp; omega) _), ((hR.far (grown_setOne32 _ _ _) (by simp; omega)).far (grown_setOne32 _ _ _) (by simp; omega)).drew, ((hA.set_other (by simp) _).set_other (by simp) _).drew, ?_⟩, by simp [intOf]; omega⟩
                · show y + 1 = f + (t + 1); have := HY.out; omega
                · refine (((hF.set0 (i := y) (by omega) vp).set0 (i := y + h) hy vm).drew).ext (fun j _ => ?_)
                  rw [HV1.out, HV2.out, HE.out]
                  exact layTo_step 8380417 z h k M c t ht j)
            · have hth2 : t = h := by omega
              subst hth2
              have d1 : decide ((y : Int) < (f : Int) + (t : Int)) = false := by simp; omega
              go_wp2
              refine ⟨⟨x + 1, f + 2 * t, c + 1, by omega, by go_num, by go_num, ⟨by have := HXF.out.1; omega, by have := HXF.out.2; rw [Nat.mul_succ]; omega⟩, hg, hR, hA, hF.ext (fun j _ => by rw [Nat.succ_mul])⟩, by simp [intOf]; omega⟩
        · have hc2 : c = k := by omega
          subst hc2
          have hf6 : f = 256 := by have := HXF.out.2; omega
          subst hf6
          go_wp2
          refine ⟨⟨l + 1, by omega, ?_, ?_, hg, hR, hA, hF.ext (fun j hj => by rw [HLay.out]; exact layTo_all 8380417 z h c M hk hh0 j hj)⟩, ?_⟩
          · have := HXF.out.1
            rw [Nat.pow_succ, ek]; congr 1; omega
          · rw [Nat.pow_succ, ← Nat.div_div_eq_div_mul, eh]; congr 1
          · have h1 := HXF.out.1
            have h2 : 0 < c := by
              rcases Nat.eq_zero_or_pos c with e | e
              · rw [e] at hk; simp at hk
              · exact e
            have h3 : c ≤ 128 := hk8
            clear HLay HZ HL HM0 HXF
            simp only [intOf]
            omega
    · have hl7 : l = 8 := by omega
      subst hl7
      go_wp2_with (first | (refine wpL_load rfl .u32 55 _ rfl B 0 rfl _ hF Try.oQ32 Try.sQ32 ?_) | (refine wpL_store rfl .u32 55 _ _ rfl (B + 1) 0 rfl _ rfl .u32 _ hA Try.sQ32 ?_; intro w4 p4))
      refine bodyPost_ret (res1 rfl .u32 _ w4 (B + 1) _ rfl p4.r Try.oQ32 Try.sQ32) rfl ⟨rfl, grown_new hg p4.g (by omega)⟩
end Go.Proofs.Ytkijpphmiogbbaa
