import Derived.Test.YtkijpphmiogbbaaT4
import Derived.Test.YtkijpphmiogbbaaR9x
import Derived.Test.YtkijpphmiogbbaaL1k
namespace Go.Proofs.Ytkijpphmiogbbaa
open Go.RowKit
attribute [local go_sem ↓] Go.wp_at_zero Go.wp_at_succ

theorem sc_step (q : Int) (f g W : Nat → Int) (i j t : Nat) (v : Int) (ht : t = (i + j) % 256) (hv : v = if i + j < 256 then (W t + f i * g j % q) % q else (W t + q - f i * g j % q) % q) (u : Nat) :
    upd W t v u = scCell q f g W i j u := by
  unfold upd scCell
  by_cases h : u = t
  · rw [if_pos h, h, if_pos ht, hv]
  · rw [if_neg h, if_neg (fun e => h (by rw [e, ht]))]
theorem scRow_range (q : Int) (hq : 0 < q) (f g w : Nat → Int) (i : Nat) (hw : ∀ u, 0 ≤ w u ∧ w u < q) (j u : Nat) : 0 ≤ scRow q f g w i j u ∧ scRow q f g w i j u < q := by
  induction j generalizing u with
  | zero => exact hw u
  | succ j ih =>
    show 0 ≤ scCell q f g (scRow q f g w i j) i j u ∧ scCell q f g (scRow q f g w i j) i j u < q
    unfold scCell
    split
    · split
      · exact ⟨Int.emod_nonneg _ (by omega), Int.emod_lt_of_pos _ hq⟩
      · exact ⟨Int.emod_nonneg _ (by omega), Int.emod_lt_of_pos _ hq⟩
    · exact ih u
/-- The numbers of one step of School. -/
theorem sc_nums (q a c wv : Nat) (qi : Int) (hqi : (q : Int) = qi) (hq : 0 < q) (hq2 : q ≤ 8380417) (ha : a < q) (hc : c < q) (_hw : wv < q) :
    ∃ p v1 v2 : Nat, p < q ∧ ((a : Int) * (c : Int)).tmod qi = (p : Int) ∧ (a : Int) * (c : Int) % qi = (p : Int) ∧ 0 ≤ (a : Int) * (c : Int) ∧ (a : Int) * (c : Int) ≤ 70231389093889 ∧
      ((wv : Int) + (p : Int)).tmod qi = (v1 : Int) ∧ ((wv : Int) + (p : Int)) % qi = (v1 : Int) ∧ ((wv : Int) + qi - (p : Int)).tmod qi = (v2 : Int) ∧ ((wv : Int) + qi - (p : Int)) % qi = (v2 : Int) := by
  subst hqi
  have hac : a * c ≤ 8380417 * 8380417 := Nat.mul_le_mul (by omega) (by omega)
  have e0 : (a : Int) * (c : Int) = ((a * c : Nat) : Int) := by simp
  have hp := Nat.mod_lt (a * c) hq
  have n1 : 0 ≤ (a : Int) * (c : Int) := by rw [e0]; omega
  have em : (a : Int) * (c : Int) % (q : Int) = ((a * c % q : Nat) : Int) := by rw [e0]; exact (Int.natCast_emod _ _).symm
  have nb : (a : Int) * (c : Int) ≤ 70231389093889 := by rw [e0]; omega
  have et : ((a : Int) * (c : Int)).tmod (q : Int) = ((a * c % q : Nat) : Int) := by rw [Int.tmod_eq_emod_of_nonneg n1]; exact em
  generalize a * c % q = p at *
  have h1 : (wv : Int) + (p : Int) = ((wv + p : Nat) : Int) := by omega
  have h2 : (wv : Int) + (q : Int) - (p : Int) = ((wv + q - p : Nat) : Int) := by omega
  have e1 : ((wv : Int) + (p : Int)) % (q : Int) = (((wv + p) % q : Nat) : Int) := by rw [h1]; exact (Int.natCast_emod _ _).symm
  have e2 : ((wv : Int) + (q : Int) - (p : Int)) % (q : Int) = (((wv + q - p) % q : Nat) : Int) := by rw [h2]; exact (Int.natCast_emod _ _).symm
  refine ⟨p, (wv + p) % q, (wv + q - p) % q, hp, et, em, n1, nb, ?_, e1, ?_, e2⟩
  · rw [Int.tmod_eq_emod_of_nonneg (by omega)]; exact e1
  · rw [Int.tmod_eq_emod_of_nonneg (by omega)]; exact e2
set_option maxHeartbeats 8000000 in
set_option maxRecDepth 20000 in
theorem school_any (c d e : Int) (w : World) (hc : -9223372036854775808 ≤ c) (hc' : c ≤ 9223372036854775807) (hd : -9223372036854775808 ≤ d) (hd' : d ≤ 9223372036854775807) (he : -9223372036854775808 ≤ e) (he' : e ≤ 9223372036854775807) :
    Calls Try.prog 4 #[.int .i64 c, .int .i64 d, .int .i64 e] w fun e w' => e = .returned (.bool true) ∧ w.grownBy w' none := by
  go_enter Try.func4, Try.ntmps4
  go_wp2_with fail
  refine (modulus_any c _ hc hc').mono ?_
  rintro r w' ⟨rfl | rfl, hw⟩
  · rw [hw]
    clear hw w'
    go_wp2_with fail
    refine (drawn_any d 3329 _ hd hd' (by omega) (by omega)).mono ?_
    rintro r w1 ⟨F, hF0, rfl, g1⟩
    have n1 := new_alloc .i64 w1 (fun _ => 0) 24
    rw [← Try.z24] at n1
    have m1 := n1.r
    go_wp2_with (first | (refine wpL_store rfl .i64 24 _ _ rfl w1.heap.size 0 rfl _ rfl .i64 _ m1 Try.sP ?_; intro w2 p2))
    refine (drawn_any e 3329 _ he he' (by omega) (by omega)).mono ?_
    rintro r w3 ⟨G, hG0, rfl, g3⟩
    have f3 := p2.r.new g3
    have q3 : w.grownBy w3 none := grownBy_trans (grown_new (grownBy_trans g1 n1.g) p2.g g1.size) g3
    have s1 := g1.size
    have l13 := f3.lt
    clear n1 m1 p2 g3 g1 w2 hd hd' he he' hc hc'
    have HF0 := hid_of hF0
    have HG0 := hid_of hG0
    have HXr := fwdN_range 3329 (by omega) zetS F hF0 7
    have HYr := fwdN_range 3329 (by omega) zetS G hG0 7
    have HWr := fun i (_ : i < 256) => scTo_range 3329 (by omega) F G 256 i
    have HZr := fwdN_range 3329 (by omega) zetS (scTo 3329 F G 256) HWr 7
    have HC1 := hid_of (fun W => call16_forward F W hF0)
    have HC2 := hid_of (fun W => call16_forward G W hG0)
    have HC3 := hid_of (fun W => call16_product (fwdN 3329 zetS 7 F) (fwdN 3329 zetS 7 G) W HXr HYr)
    have HC4 := hid_of (fun W => call16_inverse (fwdN 3329 zetS 7 (scTo 3329 F G 256)) W HZr)
    rw [polyA_ext .i64 (conv_S F G)] at HC3
    rw [polyA_ext .i64 (undo1_16 (scTo 3329 F G 256) HWr)] at HC4
    clear HXr HYr HZr HWr hF0 hG0
    generalize fwdN 3329 zetS 7 F = X at *
    generalize fwdN 3329 zetS 7 G = Y at *
    generalize fwdN 3329 zetS 7 (scTo 3329 F G 256) = Z at *
    have n3 := new_alloc .i64 w3 (fun _ => 0) 24
    rw [← Try.z24] at n3
    have m3 := n3.r
    go_wp2_with (first | (refine wpL_store rfl .i64 24 _ _ rfl w3.heap.size 0 rfl _ rfl .i64 _ m3 Try.sP ?_; intro w4 p4; have f4 := (f3.new n3.g).far p4.g (by simp; omega)) | (refine wpL_load rfl .i64 24 _ rfl w1.heap.size 0 rfl _ f4 ⟨_, Try.uP⟩ Try.sP ?_))
    refine (HC1.out _).mono ?_
    rintro r w5 ⟨rfl, g5⟩
    have f5 := f4.new g5
    have h5 := p4.r.new g5
    have q5 : w.grownBy w5 none := grownBy_trans (grown_new (grownBy_trans q3 n3.g) p4.g q3.size) g5
    have s3 := q3.size
    have l35 := h5.lt
    clear n3 m3 p4 f4 g5 f3 q3 w4
    have n5 := new_alloc .i64 w5 (fun _ => 0) 24
    rw [← Try.z24] at n5
    have m5 := n5.r
    go_wp2_with (first | (refine wpL_store rfl .i64 24 _ _ rfl w5.heap.size 0 rfl _ rfl .i64 _ m5 Try.sP ?_; intro w6 p6; have h6 := (h5.new n5.g).far p6.g (by simp; omega)) | (refine wpL_load rfl .i64 24 _ rfl w3.heap.size 0 rfl _ h6 ⟨_, Try.uP⟩ Try.sP ?_))
    refine (HC2.out _).mono ?_
    rintro r w7 ⟨rfl, g7⟩
    have f7 := ((f5.new n5.g).far p6.g (by simp; omega)).new g7
    have h7 := h6.new g7
    have x7 := p6.r.new g7
    have q7 : w.grownBy w7 none := grownBy_trans (grown_new (grownBy_trans q5 n5.g) p6.g q5.size) g7
    have s5 := q5.size
    have l57 := x7.lt
    clear n5 m5 p6 h6 g7 f5 h5 q5 w6
    have n7 := new_alloc .i64 w7 (fun _ => 0) 24
    rw [← Try.z24] at n7
    have m7 := n7.r
    go_wp2_with (first | (refine wpL_store rfl .i64 24 _ _ rfl w7.heap.size 0 rfl _ rfl .i64 _ m7 Try.sP ?_; intro w8 p8; have x8 := (x7.new n7.g).far p8.g (by simp; omega); have y8 := p8.r) | (refine wpL_load rfl .i64 24 _ rfl w5.heap.size 0 rfl _ x8 ⟨_, Try.uP⟩ Try.sP ?_) | (refine wpL_load rfl .i64 24 _ rfl w7.heap.size 0 rfl _ y8 ⟨_, Try.uP⟩ Try.sP ?_))
    refine (HC3.out _).mono ?_
    rintro r w9 ⟨rfl, g9⟩
    have f9 := ((f7.new n7.g).far p8.g (by simp; omega)).new g9
    have h9 := ((h7.new n7.g).far p8.g (by simp; omega)).new g9
    have q9 : w.grownBy w9 none := grownBy_trans (grown_new (grownBy_trans q7 n7.g) p8.g q7.size) g9
    have s7 := q7.size
    have l19 := f9.lt
    have l39 := h9.lt
    clear n7 m7 p8 x8 y8 g9 f7 h7 x7 q7 w8
    have n9 := new_alloc .i64 w9 (fun _ => 0) 24
    rw [← Try.z24] at n9
    have m9 := n9.r
    go_wp2_with (first | (refine wpL_store rfl .i64 24 _ _ rfl w9.heap.size 0 rfl _ rfl .i64 _ m9 Try.sP ?_; intro wa pa; have za := pa.r) | (refine wpL_load rfl .i64 24 _ rfl w9.heap.size 0 rfl _ za ⟨_, Try.uP⟩ Try.sP ?_))
    refine (HC4.out _).mono ?_
    rintro r wb ⟨rfl, gb⟩
    have fb := ((f9.new n9.g).far pa.g (by simp; omega)).new gb
    have hb := ((h9.new n9.g).far pa.g (by simp; omega)).new gb
    have qb : w.grownBy wb none := grownBy_trans (grown_new (grownBy_trans q9 n9.g) pa.g q9.size) gb
    have s9 := q9.size
    have l1b := fb.lt
    have l3b := hb.lt
    clear n9 m9 pa za gb f9 h9 q9 wa HC1 HC2 HC3 HC4
    have nb := new_alloc .i64 wb (fun _ => 0) 24
    rw [← Try.z24] at nb
    have mb := nb.r
    go_wp2_with (first | (refine wpL_store rfl .i64 24 _ _ rfl wb.heap.size 0 rfl _ rfl .i64 _ mb Try.sP ?_; intro wc pc))
    have fc := (fb.new nb.g).far pc.g (by simp; omega)
    have hc2 := (hb.new nb.g).far pc.g (by simp; omega)
    have vc := pc.r
    have qc : w.grownBy wc none := grown_new (grownBy_trans qb nb.g) pc.g qb.size
    have sb := qb.size
    have lbc := vc.lt
    have nc := new_alloc .i64 wc (fun _ => 0) 24
    rw [← Try.z24] at nc
    have fd := fc.new nc.g
    have hd2 := hc2.new nc.g
    have vd := vc.new nc.g
    have td := nc.r
    have qd := grownBy_trans qc nc.g
    have sc' := qc.size
    generalize wc.alloc (.cells Try.zeroCells24 24) = wd at *
    clear nb mb pc fb hb qb fc hc2 vc qc nc
    obtain ⟨bf, hbf⟩ : ∃ b, b = w1.heap.size := ⟨_, rfl⟩
    obtain ⟨bg, hbg⟩ : ∃ b, b = w3.heap.size := ⟨_, rfl⟩
    obtain ⟨bh, hbh⟩ : ∃ b, b = wb.heap.size := ⟨_, rfl⟩
    obtain ⟨bw, hbw⟩ : ∃ b, b = wc.heap.size := ⟨_, rfl⟩
    have nfw : bf ≠ bw := by omega
    have ngw : bg ≠ bw := by omega
    have nhw : bh ≠ bw := by omega
    have sbw : w.heap.size ≤ bw := by omega
    rw [← hbf] at fd ⊢
    rw [← hbg] at hd2 ⊢
    rw [← hbh] at vd ⊢
    rw [← hbw] at td ⊢
    clear hbf hbg hbh hbw s1 s3 s5 s7 s9 sb sc' l13 l35 l57 l19 l39 l1b l3b lbc
    go_loopw [19, 20, 21] (fun i _ _ wr => ∃ k : Nat, k ≤ 256 ∧ i = .int .i64 k ∧ w.grownBy wr none ∧ PRow .i64 wr bf 0 F ∧ PRow .i64 wr bg 0 G ∧ PRow .i64 wr bh 0 (scTo 3329 F G 256) ∧ PRow .i64 wr bw 0 (scTo 3329 F G k)) (fun i _ _ _ => 256 - (intOf i).toNat)
    case atStart => exact ⟨0, by omega, rfl, qd, fd, hd2, vd, td⟩
    case round =>
      clear qd fd hd2 vd td
      obtain ⟨k, hk, rfl, hg, hF, hG, hH, hW⟩ := hrel
      by_cases hlt : k < 256
      · have k0 : (0 : Int) ≤ (k : Int) := by omega
        have k1 : (k : Int) < 256 := by omega
        have HS := hid_of (show scTo 3329 F G (k + 1) = scRow 3329 F G (scTo 3329 F G k) k 256 from rfl)
        have HR := hid_of (scTo_range 3329 (by omega) F G k)
        generalize scTo 3329 F G k = M at *
        go_wp2
        go_loopw [20, 21] (fun j _ wv => ∃ m : Nat, m ≤ 256 ∧ j = .int .i64 m ∧ w.grownBy wv none ∧ PRow .i64 wv bf 0 F ∧ PRow .i64 wv bg 0 G ∧ PRow .i64 wv bh 0 (scTo 3329 F G 256) ∧ PRow .i64 wv bw 0 (scRow 3329 F G M k m)) (fun j _ _ => 256 - (intOf j).toNat)
        case atStart => exact ⟨0, by omega, rfl, hg, hF, hG, hH, hW⟩
        case round =>
          clear hg hF hG hH hW
          obtain ⟨m, hm, rfl, hg, hF, hG, hH, hW⟩ := hrel
          by_cases hlm : m < 256
          · have HSR := hid_of (show scRow 3329 F G M k (m + 1) = scCell 3329 F G (scRow 3329 F G M k m) k m from rfl)
            have HRR := hid_of (scRow_range 3329 (by omega) F G M k HR.out m)
            generalize scRow 3329 F G M k m = V at *
            obtain ⟨t, ht⟩ : ∃ t, t = (k + m) % 256 := ⟨_, rfl⟩
            have lt : t < 256 := by omega
            obtain ⟨a, ha⟩ : ∃ a : Nat, F k = (a : Int) := ⟨(F k).toNat, (Int.toNat_of_nonneg (HF0.out k hlt).1).symm⟩
            obtain ⟨c, hc⟩ : ∃ c : Nat, G m = (c : Int) := ⟨(G m).toNat, (Int.toNat_of_nonneg (HG0.out m hlm).1).symm⟩
            obtain ⟨wv, hwv⟩ : ∃ a : Nat, V t = (a : Int) := ⟨(V t).toNat, (Int.toNat_of_nonneg (HRR.out t).1).symm⟩
            have la : a < 3329 := by have := (HF0.out k hlt).2; omega
            have lc : c < 3329 := by have := (HG0.out m hlm).2; omega
            have lw : wv < 3329 := by have := (HRR.out t).2; omega
            have c1 := (hF.at0 k hlt).1
            have c2 := (hG.at0 m hlm).1
            have c3 := (hW.at0 t lt).1
            have f3 := (hW.at0 t lt).2
            rw [ha] at c1
            rw [hc] at c2
            rw [hwv] at c3
            obtain ⟨p, v1, v2, lp, p1, p2, p3, p4, u1, u2, x1, x2⟩ := sc_nums 3329 a c wv 3329 rfl (by omega) (by omega) la lc lw
            have HV1 : Hid (k + m < 256 → (v1 : Int) = if k + m < 256 then (V t + F k * G m % 3329) % 3329 else (V t + 3329 - F k * G m % 3329) % 3329) := fun h => by
              rw [if_pos h, ha, hc, hwv, p2]; exact u2.symm
            have HV2 : Hid (¬ k + m < 256 → (v2 : Int) = if k + m < 256 then (V t + F k * G m % 3329) % 3329 else (V t + 3329 - F k * G m % 3329) % 3329) := fun h => by
              rw [if_neg h, ha, hc, hwv, p2]; exact x2.symm
            have HT := hid_of ht
            have HRC : Hid (∀ v : Int, (v = if k + m < 256 then (V t + F k * G m % 3329) % 3329 else (V t + 3329 - F k * G m % 3329) % 3329) → ∀ W : World, PRow .i64 W bw 0 (upd V t v) → PRow .i64 W bw 0 (scRow 3329 F G M k (m + 1))) := fun v hv W h => h.ext (fun u _ => by rw [HSR.out]; exact sc_step 3329 F G V k m t v HT.out hv u)
            have m0 : (0 : Int) ≤ (m : Int) := by omega
            have m1 : (m : Int) < 256 := by omega
            by_cases hkm : k + m < 256
            · have et : t = k + m := by omega
              have V1 := hid_of (HRC.out v1 (HV1.out hkm))
              subst et
              have y0 : (0 : Int) ≤ (k : Int) + (m : Int) := by omega
              have y1 : (k : Int) + (m : Int) < 256 := by omega
              have y2 : ((k : Int) + (m : Int)).toNat = k + m := by omega
              have y3 : IntKind.i64.wrap ((k : Int) + (m : Int)) = (k : Int) + (m : Int) := by rw [IntKind.wrap_i64] <;> omega
              clear HV1 HV2 HRC HSR HRR HT ha hc hwv x1 x2 lt ht
              go_wp2
              go_region
              go_wp2
              go_roundw
              case rel => exact ⟨m + 1, by omega, by go_num, grown_drew (grown_setNew hg (by simp; omega) _), (hF.set_other (by simp; omega) _).drew, (hG.set_other (by simp; omega) _).drew, (hH.set_other (by simp; omega) _).drew, V1.out _ ((hW.set0 (i := k + m) (by omega) (v1 : Int)).drew)⟩
              case measure => simp [intOf]; omega
            · have et : t + 256 = k + m := by omega
              have V2 := hid_of (HRC.out v2 (HV2.out hkm))
              have y0 : decide ((k : Int) + (m : Int) < 256) = false := by simp; omega
              have y1 : (k : Int) + (m : Int) - 256 = (t : Int) := by omega
              have y3 : IntKind.i64.wrap ((k : Int) + (m : Int)) = (k : Int) + (m : Int) := by rw [IntKind.wrap_i64] <;> omega
              have y4 : IntKind.i64.wrap (t : Int) = (t : Int) := by rw [IntKind.wrap_i64] <;> omega
              have y5 : (0 : Int) ≤ (t : Int) := by omega
              have y6 : (t : Int) < 256 := by omega
              clear HV1 HV2 HRC HSR HRR HT ha hc hwv u1 u2 ht et hkm
              go_wp2
              go_region
              go_wp2
              go_roundw
              case rel => exact ⟨m + 1, by omega, by go_num, grown_drew (grown_setNew hg (by simp; omega) _), (hF.set_other (by simp; omega) _).drew, (hG.set_other (by simp; omega) _).drew, (hH.set_other (by simp; omega) _).drew, V2.out _ ((hW.set0 (i := t) lt (v2 : Int)).drew)⟩
              case measure => simp [intOf]; omega
          · have hm6 : m = 256 := by omega
            subst hm6
            go_wp2
            refine ⟨⟨k + 1, by omega, by go_num, hg, hF, hG, hH, ?_⟩, by simp [intOf]; omega⟩
            rw [HS.out]; exact hW
      · have hk6 : k = 256 := by omega
        subst hk6
        go_wp2_with (first | (refine wpG_load rfl .i64 24 _ rfl bh 0 rfl _ hH ⟨_, Try.uP⟩ Try.sP ?_) | (refine wpG_load rfl .i64 24 _ rfl bw 0 rfl _ hW ⟨_, Try.uP⟩ Try.sP ?_) | (refine wpG_eql rfl _ _ _ rfl _ rfl rfl ?_))
        go_ret
        exact ⟨rfl, hg⟩
  · rw [hw]
    clear hw w'
    go_wp2_with fail
    refine (drawn_any d 8380417 _ hd hd' (by omega) (by omega)).mono ?_
    rintro r w1 ⟨F, hF0, rfl, g1⟩
    have n1 := new_alloc .i64 w1 (fun _ => 0) 24
    rw [← Try.z24] at n1
    have m1 := n1.r
    go_wp2_with (first | (refine wpL_store rfl .i64 24 _ _ rfl w1.heap.size 0 rfl _ rfl .i64 _ m1 Try.sP ?_; intro w2 p2))
    refine (drawn_any e 8380417 _ he he' (by omega) (by omega)).mono ?_
    rintro r w3 ⟨G, hG0, rfl, g3⟩
    have f3 := p2.r.new g3
    have q3 : w.grownBy w3 none := grownBy_trans (grown_new (grownBy_trans g1 n1.g) p2.g g1.size) g3
    have s1 := g1.size
    have l13 := f3.lt
    clear n1 m1 p2 g3 g1 w2 hd hd' he he' hc hc'
    have HF0 := hid_of hF0
    have HG0 := hid_of hG0
    have HXr := fwdN_range 8380417 (by omega) zetG F hF0 8
    have HYr := fwdN_range 8380417 (by omega) zetG G hG0 8
    have HWr := fun i (_ : i < 256) => scTo_range 8380417 (by omega) F G 256 i
    have HZr := fwdN_range 8380417 (by omega) zetG (scTo 8380417 F G 256) HWr 8
    have HC1 := hid_of (fun W => call32_forward F W hF0)
    have HC2 := hid_of (fun W => call32_forward G W hG0)
    have HC3 := hid_of (fun W => call32_product (fwdN 8380417 zetG 8 F) (fwdN 8380417 zetG 8 G) W HXr HYr)
    have HC4 := hid_of (fun W => call32_inverse (fwdN 8380417 zetG 8 (scTo 8380417 F G 256)) W HZr)
    rw [polyA_ext .i64 (conv_G F G)] at HC3
    rw [polyA_ext .i64 (undo1_32 (scTo 8380417 F G 256) HWr)] at HC4
    clear HXr HYr HZr HWr hF0 hG0
    generalize fwdN 8380417 zetG 8 F = X at *
    generalize fwdN 8380417 zetG 8 G = Y at *
    generalize fwdN 8380417 zetG 8 (scTo 8380417 F G 256) = Z at *
    have n3 := new_alloc .i64 w3 (fun _ => 0) 24
    rw [← Try.z24] at n3
    have m3 := n3.r
    go_wp2_with (first | (refine wpL_store rfl .i64 24 _ _ rfl w3.heap.size 0 rfl _ rfl .i64 _ m3 Try.sP ?_; intro w4 p4; have f4 := (f3.new n3.g).far p4.g (by simp; omega)) | (refine wpL_load rfl .i64 24 _ rfl w1.heap.size 0 rfl _ f4 ⟨_, Try.uP⟩ Try.sP ?_))
    refine (HC1.out _).mono ?_
    rintro r w5 ⟨rfl, g5⟩
    have f5 := f4.new g5
    have h5 := p4.r.new g5
    have q5 : w.grownBy w5 none := grownBy_trans (grown_new (grownBy_trans q3 n3.g) p4.g q3.size) g5
    have s3 := q3.size
    have l35 := h5.lt
    clear n3 m3 p4 f4 g5 f3 q3 w4
    have n5 := new_alloc .i64 w5 (fun _ => 0) 24
    rw [← Try.z24] at n5
    have m5 := n5.r
    go_wp2_with (first | (refine wpL_store rfl .i64 24 _ _ rfl w5.heap.size 0 rfl _ rfl .i64 _ m5 Try.sP ?_; intro w6 p6; have h6 := (h5.new n5.g).far p6.g (by simp; omega)) | (refine wpL_load rfl .i64 24 _ rfl w3.heap.size 0 rfl _ h6 ⟨_, Try.uP⟩ Try.sP ?_))
    refine (HC2.out _).mono ?_
    rintro r w7 ⟨rfl, g7⟩
    have f7 := ((f5.new n5.g).far p6.g (by simp; omega)).new g7
    have h7 := h6.new g7
    have x7 := p6.r.new g7
    have q7 : w.grownBy w7 none := grownBy_trans (grown_new (grownBy_trans q5 n5.g) p6.g q5.size) g7
    have s5 := q5.size
    have l57 := x7.lt
    clear n5 m5 p6 h6 g7 f5 h5 q5 w6
    have n7 := new_alloc .i64 w7 (fun _ => 0) 24
    rw [← Try.z24] at n7
    have m7 := n7.r
    go_wp2_with (first | (refine wpL_store rfl .i64 24 _ _ rfl w7.heap.size 0 rfl _ rfl .i64 _ m7 Try.sP ?_; intro w8 p8; have x8 := (x7.new n7.g).far p8.g (by simp; omega); have y8 := p8.r) | (refine wpL_load rfl .i64 24 _ rfl w5.heap.size 0 rfl _ x8 ⟨_, Try.uP⟩ Try.sP ?_) | (refine wpL_load rfl .i64 24 _ rfl w7.heap.size 0 rfl _ y8 ⟨_, Try.uP⟩ Try.sP ?_))
    refine (HC3.out _).mono ?_
    rintro r w9 ⟨rfl, g9⟩
    have f9 := ((f7.new n7.g).far p8.g (by simp; omega)).new g9
    have h9 := ((h7.new n7.g).far p8.g (by simp; omega)).new g9
    have q9 : w.grownBy w9 none := grownBy_trans (grown_new (grownBy_trans q7 n7.g) p8.g q7.size) g9
    have s7 := q7.size
    have l19 := f9.lt
    have l39 := h9.lt
    clear n7 m7 p8 x8 y8 g9 f7 h7 x7 q7 w8
    have n9 := new_alloc .i64 w9 (fun _ => 0) 24
    rw [← Try.z24] at n9
    have m9 := n9.r
    go_wp2_with (first | (refine wpL_store rfl .i64 24 _ _ rfl w9.heap.size 0 rfl _ rfl .i64 _ m9 Try.sP ?_; intro wa pa; have za := pa.r) | (refine wpL_load rfl .i64 24 _ rfl w9.heap.size 0 rfl _ za ⟨_, Try.uP⟩ Try.sP ?_))
    refine (HC4.out _).mono ?_
    rintro r wb ⟨rfl, gb⟩
    have fb := ((f9.new n9.g).far pa.g (by simp; omega)).new gb
    have hb := ((h9.new n9.g).far pa.g (by simp; omega)).new gb
    have qb : w.grownBy wb none := grownBy_trans (grown_new (grownBy_trans q9 n9.g) pa.g q9.size) gb
    have s9 := q9.size
    have l1b := fb.lt
    have l3b := hb.lt
    clear n9 m9 pa za gb f9 h9 q9 wa HC1 HC2 HC3 HC4
    have nb := new_alloc .i64 wb (fun _ => 0) 24
    rw [← Try.z24] at nb
    have mb := nb.r
    go_wp2_with (first | (refine wpL_store rfl .i64 24 _ _ rfl wb.heap.size 0 rfl _ rfl .i64 _ mb Try.sP ?_; intro wc pc))
    have fc := (fb.new nb.g).far pc.g (by simp; omega)
    have hc2 := (hb.new nb.g).far pc.g (by simp; omega)
    have vc := pc.r
    have qc : w.grownBy wc none := grown_new (grownBy_trans qb nb.g) pc.g qb.size
    have sb := qb.size
    have lbc := vc.lt
    have nc := new_alloc .i64 wc (fun _ => 0) 24
    rw [← Try.z24] at nc
    have fd := fc.new nc.g
    have hd2 := hc2.new nc.g
    have vd := vc.new nc.g
    have td := nc.r
    have qd := grownBy_trans qc nc.g
    have sc' := qc.size
    generalize wc.alloc (.cells Try.zeroCells24 24) = wd at *
    clear nb mb pc fb hb qb fc hc2 vc qc nc
    obtain ⟨bf, hbf⟩ : ∃ b, b = w1.heap.size := ⟨_, rfl⟩
    obtain ⟨bg, hbg⟩ : ∃ b, b = w3.heap.size := ⟨_, rfl⟩
    obtain ⟨bh, hbh⟩ : ∃ b, b = wb.heap.size := ⟨_, rfl⟩
    obtain ⟨bw, hbw⟩ : ∃ b, b = wc.heap.size := ⟨_, rfl⟩
    have nfw : bf ≠ bw := by omega
    have ngw : bg ≠ bw := by omega
    have nhw : bh ≠ bw := by omega
    have sbw : w.heap.size ≤ bw := by omega
    rw [← hbf] at fd ⊢
    rw [← hbg] at hd2 ⊢
    rw [← hbh] at vd ⊢
    rw [← hbw] at td ⊢
    clear hbf hbg hbh hbw s1 s3 s5 s7 s9 sb sc' l13 l35 l57 l19 l39 l1b l3b lbc
    go_loopw [19, 20, 21] (fun i _ _ wr => ∃ k : Nat, k ≤ 256 ∧ i = .int .i64 k ∧ w.grownBy wr none ∧ PRow .i64 wr bf 0 F ∧ PRow .i64 wr bg 0 G ∧ PRow .i64 wr bh 0 (scTo 8380417 F G 256) ∧ PRow .i64 wr bw 0 (scTo 8380417 F G k)) (fun i _ _ _ => 256 - (intOf i).toNat)
    case atStart => exact ⟨0, by omega, rfl, qd, fd, hd2, vd, td⟩
    case round =>
      clear qd fd hd2 vd td
      obtain ⟨k, hk, rfl, hg, hF, hG, hH, hW⟩ := hrel
      by_cases hlt : k < 256
      · have k0 : (0 : Int) ≤ (k : Int) := by omega
        have k1 : (k : Int) < 256 := by omega
        have HS := hid_of (show scTo 8380417 F G (k + 1) = scRow 8380417 F G (scTo 8380417 F G k) k 256 from rfl)
        have HR := hid_of (scTo_range 8380417 (by omega) F G k)
        generalize scTo 8380417 F G k = M at *
        go_wp2
        go_loopw [20, 21] (fun j _ wv => ∃ m : Nat, m ≤ 256 ∧ j = .int .i64 m ∧ w.grownBy wv none ∧ PRow .i64 wv bf 0 F ∧ PRow .i64 wv bg 0 G ∧ PRow .i64 wv bh 0 (scTo 8380417 F G 256) ∧ PRow .i64 wv bw 0 (scRow 8380417 F G M k m)) (fun j _ _ => 256 - (intOf j).toNat)
        case atStart => exact ⟨0, by omega, rfl, hg, hF, hG, hH, hW⟩
        case round =>
          clear hg hF hG hH hW
          obtain ⟨m, hm, rfl, hg, hF, hG, hH, hW⟩ := hrel
          by_cases hlm : m < 256
          · have HSR := hid_of (show scRow 8380417 F G M k (m + 1) = scCell 8380417 F G (scRow 8380417 F G M k m) k m from rfl)
            have HRR := hid_of (scRow_range 8380417 (by omega) F G M k HR.out m)
            generalize scRow 8380417 F G M k m = V at *
            obtain ⟨t, ht⟩ : ∃ t, t = (k + m) % 256 := ⟨_, rfl⟩
            have lt : t < 256 := by omega
            obtain ⟨a, ha⟩ : ∃ a : Nat, F k = (a : Int) := ⟨(F k).toNat, (Int.toNat_of_nonneg (HF0.out k hlt).1).symm⟩
            obtain ⟨c, hc⟩ : ∃ c : Nat, G m = (c : Int) := ⟨(G m).toNat, (Int.toNat_of_nonneg (HG0.out m hlm).1).symm⟩
            obtain ⟨wv, hwv⟩ : ∃ a : Nat, V t = (a : Int) := ⟨(V t).toNat, (Int.toNat_of_nonneg (HRR.out t).1).symm⟩
            have la : a < 8380417 := by have := (HF0.out k hlt).2; omega
            have lc : c < 8380417 := by have := (HG0.out m hlm).2; omega
            have lw : wv < 8380417 := by have := (HRR.out t).2; omega
            have c1 := (hF.at0 k hlt).1
            have c2 := (hG.at0 m hlm).1
            have c3 := (hW.at0 t lt).1
            have f3 := (hW.at0 t lt).2
            rw [ha] at c1
            rw [hc] at c2
            rw [hwv] at c3
            obtain ⟨p, v1, v2, lp, p1, p2, p3, p4, u1, u2, x1, x2⟩ := sc_nums 8380417 a c wv 8380417 rfl (by omega) (by omega) la lc lw
            have HV1 : Hid (k + m < 256 → (v1 : Int) = if k + m < 256 then (V t + F k * G m % 8380417) % 8380417 else (V t + 8380417 - F k * G m % 8380417) % 8380417) := fun h => by
              rw [if_pos h, ha, hc, hwv, p2]; exact u2.symm
            have HV2 : Hid (¬ k + m < 256 → (v2 : Int) = if k + m < 256 then (V t + F k * G m % 8380417) % 8380417 else (V t + 8380417 - F k * G m % 8380417) % 8380417) := fun h => by
              rw [if_neg h, ha, hc, hwv, p2]; exact x2.symm
            have HT := hid_of ht
            have HRC : Hid (∀ v : Int, (v = if k + m < 256 then (V t + F k * G m % 8380417) % 8380417 else (V t + 8380417 - F k * G m % 8380417) % 8380417) → ∀ W : World, PRow .i64 W bw 0 (upd V t v) → PRow .i64 W bw 0 (scRow 8380417 F G M k (m + 1))) := fun v hv W h => h.ext (fun u _ => by rw [HSR.out]; exact sc_step 8380417 F G V k m t v HT.out hv u)
            have m0 : (0 : Int) ≤ (m : Int) := by omega
            have m1 : (m : Int) < 256 := by omega
            by_cases hkm : k + m < 256
            · have et : t = k + m := by omega
              have V1 := hid_of (HRC.out v1 (HV1.out hkm))
              subst et
              have y0 : (0 : Int) ≤ (k : Int) + (m : Int) := by omega
              have y1 : (k : Int) + (m : Int) < 256 := by omega
              have y2 : ((k : Int) + (m : Int)).toNat = k + m := by omega
              have y3 : IntKind.i64.wrap ((k : Int) + (m : Int)) = (k : Int) + (m : Int) := by rw [IntKind.wrap_i64] <;> omega
              clear HV1 HV2 HRC HSR HRR HT ha hc hwv x1 x2 lt ht
              go_wp2
              go_region
              go_wp2
              go_roundw
              case rel => exact ⟨m + 1, by omega, by go_num, grown_drew (grown_setNew hg (by simp; omega) _), (hF.set_other (by simp; omega) _).drew, (hG.set_other (by simp; omega) _).drew, (hH.set_other (by simp; omega) _).drew, V1.out _ ((hW.set0 (i := k + m) (by omega) (v1 : Int)).drew)⟩
              case measure => simp [intOf]; omega
            · have et : t + 256 = k + m := by omega
              have V2 := hid_of (HRC.out v2 (HV2.out hkm))
              have y0 : decide ((k : Int) + (m : Int) < 256) = false := by simp; omega
              have y1 : (k : Int) + (m : Int) - 256 = (t : Int) := by omega
              have y3 : IntKind.i64.wrap ((k : Int) + (m : Int)) = (k : Int) + (m : Int) := by rw [IntKind.wrap_i64] <;> omega
              have y4 : IntKind.i64.wrap (t : Int) = (t : Int) := by rw [IntKind.wrap_i64] <;> omega
              have y5 : (0 : Int) ≤ (t : Int) := by omega
              have y6 : (t : Int) < 256 := by omega
              clear HV1 HV2 HRC HSR HRR HT ha hc hwv u1 u2 ht et hkm
              go_wp2
              go_region
              go_wp2
              go_roundw
              case rel => exact ⟨m + 1, by omega, by go_num, grown_drew (grown_setNew hg (by simp; omega) _), (hF.set_other (by simp; omega) _).drew, (hG.set_other (by simp; omega) _).drew, (hH.set_other (by simp; omega) _).drew, V2.out _ ((hW.set0 (i := t) lt (v2 : Int)).drew)⟩
              case measure => simp [intOf]; omega
          · have hm6 : m = 256 := by omega
            subst hm6
            go_wp2
            refine ⟨⟨k + 1, by omega, by go_num, hg, hF, hG, hH, ?_⟩, by simp [intOf]; omega⟩
            rw [HS.out]; exact hW
      · have hk6 : k = 256 := by omega
        subst hk6
        go_wp2_with (first | (refine wpG_load rfl .i64 24 _ rfl bh 0 rfl _ hH ⟨_, Try.uP⟩ Try.sP ?_) | (refine wpG_load rfl .i64 24 _ rfl bw 0 rfl _ hW ⟨_, Try.uP⟩ Try.sP ?_) | (refine wpG_eql rfl _ _ _ rfl _ rfl rfl ?_))
        go_ret
        exact ⟨rfl, hg⟩
end Go.Proofs.Ytkijpphmiogbbaa
