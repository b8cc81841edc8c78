import Derived.Test.YtkijpphmiogbbaaR8x
import Derived.Test.YtkijpphmiogbbaaN6
import Derived.Test.YtkijpphmiogbbaaLh
import Derived.Test.YtkijpphmiogbbaaL1k
namespace Go.Proofs.Ytkijpphmiogbbaa
open Go.RowKit
attribute [local go_sem ↓] Go.wp_at_zero Go.wp_at_succ

set_option maxHeartbeats 400000 in
theorem modulus_any (c : Int) (w : World) (hc : -9223372036854775808 ≤ c) (hc' : c ≤ 9223372036854775807) :
    Calls Try.prog 6 #[.int .i64 c] w fun e w' => (e = .returned (.int .i64 3329) ∨ e = .returned (.int .i64 8380417)) ∧ w' = w := by
  go_enter Try.func6, Try.ntmps6
  go_wp2_with fail
  refine (pick_any c 2 _ hc hc' (by omega) (by omega)).mono ?_
  rintro e w' ⟨k, hk, rfl, hw⟩
  rw [hw]
  clear hw w'
  by_cases h : k = 0
  · subst h
    go_wp2
    go_ret
    exact ⟨Or.inl rfl, rfl⟩
  · have h1 : ((k : Int) == 0) = false := by simp; omega
    go_wp2
    go_ret
    exact ⟨Or.inr rfl, rfl⟩
set_option maxHeartbeats 4000000 in
set_option maxRecDepth 20000 in
theorem undone_any (c d : Int) (w : World) (hc : -9223372036854775808 ≤ c) (hc' : c ≤ 9223372036854775807) (hd : -9223372036854775808 ≤ d) (hd' : d ≤ 9223372036854775807) :
    Calls Try.prog 3 #[.int .i64 c, .int .i64 d] w fun e w' => e = .returned (.bool true) ∧ w.grownBy w' none := by
  go_enter Try.func3, Try.ntmps3
  go_wp2_with fail
  refine (modulus_any c _ hc hc').mono ?_
  rintro e w' ⟨rfl | rfl, hw⟩
  · rw [hw]
    clear hw w'
    go_wp2_with fail
    refine (drawn_any d 3329 _ hd hd' (by omega) (by omega)).mono ?_
    rintro e w1 ⟨L, hL, rfl, g1⟩
    have HL := hid_of hL
    have HG := hid_of (fun i (hi : i < 256) => fwdN_range 3329 (by omega) zetS L hL 7 i hi)
    have HI := hid_of (fun i (_ : i < 256) => (⟨Int.emod_nonneg (invN 3329 zetS 7 L i * 3303) (by omega), Int.emod_lt_of_pos (invN 3329 zetS 7 L i * 3303) (by omega)⟩ : 0 ≤ invN 3329 zetS 7 L i * 3303 % 3329 ∧ invN 3329 zetS 7 L i * 3303 % 3329 < 3329))
    have HC1 := hid_of (fun W => call16_forward L W hL)
    have HC2 := hid_of (fun W => call16_inverse (fwdN 3329 zetS 7 L) W HG.out)
    have HC3 := hid_of (fun W => call16_inverse L W hL)
    have HC4 := hid_of (fun W => call16_forward (fun i => invN 3329 zetS 7 L i * 3303 % 3329) W HI.out)
    have E1 := polyA_ext .i64 (undo1_16 L hL)
    have E2 : polyA .i64 (fwdN 3329 zetS 7 (fun i => invN 3329 zetS 7 L i * 3303 % 3329)) = polyA .i64 L := polyA_ext .i64 (undo2_16 L hL)
    rw [E1] at HC2
    rw [E2] at HC4
    clear hL E1 E2 HG HI HL
    generalize fwdN 3329 zetS 7 L = G at *
    generalize (fun i => invN 3329 zetS 7 L i * 3303 % 3329) = I at *
    have n1 := new_alloc .i64 w1 (fun _ => 0) 24
    rw [← Try.z24] at n1
    have m1 := n1.r
    go_wp2_with (first | (refine wpL_store rfl .i64 24 _ _ rfl w1.heap.size 0 rfl _ rfl .i64 _ m1 Try.sP ?_; intro w2 p2) | (refine wpL_load rfl .i64 24 _ rfl w1.heap.size 0 rfl _ p2.r ⟨_, Try.uP⟩ Try.sP ?_))
    refine (HC1.out _).mono ?_
    rintro e w3 ⟨rfl, g3⟩
    have f3 := p2.r.new g3
    have q3 : w.grownBy w3 none := grownBy_trans (grown_new (grownBy_trans g1 n1.g) p2.g g1.size) g3
    have l13 := f3.lt
    clear n1 m1 p2 g3 g1 w2
    have n3 := new_alloc .i64 w3 (fun _ => 0) 24
    rw [← Try.z24] at n3
    have m3 := n3.r
    go_wp2_with (first | (refine wpL_store rfl .i64 24 _ _ rfl w3.heap.size 0 rfl _ rfl .i64 _ m3 Try.sP ?_; intro w4 p4) | (refine wpL_load rfl .i64 24 _ rfl w3.heap.size 0 rfl _ p4.r ⟨_, Try.uP⟩ Try.sP ?_))
    refine (HC2.out _).mono ?_
    rintro e w5 ⟨rfl, g5⟩
    have f5 := ((f3.new n3.g).far p4.g (by simp; omega)).new g5
    have q5 : w.grownBy w5 none := grownBy_trans (grown_new (grownBy_trans q3 n3.g) p4.g q3.size) g5
    have l15 := f5.lt
    clear n3 m3 p4 g5 f3 q3 w4
    have n5 := new_alloc .i64 w5 (fun _ => 0) 24
    rw [← Try.z24] at n5
    have m5 := n5.r
    go_wp2_with (first | (refine wpL_store rfl .i64 24 _ _ rfl w5.heap.size 0 rfl _ rfl .i64 _ m5 Try.sP ?_; intro w6 p6; have f6 := (f5.new n5.g).far p6.g (by simp; omega)) | (refine wpL_load rfl .i64 24 _ rfl w1.heap.size 0 rfl _ f6 ⟨_, Try.uP⟩ Try.sP ?_))
    refine (HC3.out _).mono ?_
    rintro e w7 ⟨rfl, g7⟩
    have f7 := f6.new g7
    have h7 := p6.r.new g7
    have q7 : w.grownBy w7 none := grownBy_trans (grown_new (grownBy_trans q5 n5.g) p6.g q5.size) g7
    have l17 := f7.lt
    have l57 := h7.lt
    clear n5 m5 p6 g7 f5 f6 q5 w6
    have n7 := new_alloc .i64 w7 (fun _ => 0) 24
    rw [← Try.z24] at n7
    have m7 := n7.r
    go_wp2_with (first | (refine wpL_store rfl .i64 24 _ _ rfl w7.heap.size 0 rfl _ rfl .i64 _ m7 Try.sP ?_; intro w8 p8) | (refine wpL_load rfl .i64 24 _ rfl w7.heap.size 0 rfl _ p8.r ⟨_, Try.uP⟩ Try.sP ?_))
    refine (HC4.out _).mono ?_
    rintro e w9 ⟨rfl, g9⟩
    have f9 := ((f7.new n7.g).far p8.g (by simp; omega)).new g9
    have h9 := ((h7.new n7.g).far p8.g (by simp; omega)).new g9
    have q9 : w.grownBy w9 none := grownBy_trans (grown_new (grownBy_trans q7 n7.g) p8.g q7.size) g9
    have l19 := f9.lt
    have l59 := h9.lt
    clear n7 m7 p8 g9 f7 h7 q7 w8
    have n9 := new_alloc .i64 w9 (fun _ => 0) 24
    rw [← Try.z24] at n9
    have m9 := n9.r
    go_wp2_with (first | (refine wpL_store rfl .i64 24 _ _ rfl w9.heap.size 0 rfl _ rfl .i64 _ m9 Try.sP ?_; intro wa pa; have fa := (f9.new n9.g).far pa.g (by simp; omega); have ha := (h9.new n9.g).far pa.g (by simp; omega); have ja := pa.r) | (refine wpG_load rfl .i64 24 _ rfl w5.heap.size 0 rfl _ ha ⟨_, Try.uP⟩ Try.sP ?_) | (refine wpG_load rfl .i64 24 _ rfl w1.heap.size 0 rfl _ fa ⟨_, Try.uP⟩ Try.sP ?_) | (refine wpG_load rfl .i64 24 _ rfl w9.heap.size 0 rfl _ ja ⟨_, Try.uP⟩ Try.sP ?_) | (refine wpG_eql rfl _ _ _ rfl _ rfl rfl ?_))
    go_ret
    exact ⟨rfl, grown_new (grownBy_trans q9 n9.g) pa.g q9.size⟩
  · rw [hw]
    clear hw w'
    go_wp2_with fail
    refine (drawn_any d 8380417 _ hd hd' (by omega) (by omega)).mono ?_
    rintro e w1 ⟨L, hL, rfl, g1⟩
    have HL := hid_of hL
    have HG := hid_of (fun i (hi : i < 256) => fwdN_range 8380417 (by omega) zetG L hL 8 i hi)
    have HI := hid_of (fun i (_ : i < 256) => (⟨Int.emod_nonneg (invN 8380417 zetG 8 L i * 8347681) (by omega), Int.emod_lt_of_pos (invN 8380417 zetG 8 L i * 8347681) (by omega)⟩ : 0 ≤ invN 8380417 zetG 8 L i * 8347681 % 8380417 ∧ invN 8380417 zetG 8 L i * 8347681 % 8380417 < 8380417))
    have HC1 := hid_of (fun W => call32_forward L W hL)
    have HC2 := hid_of (fun W => call32_inverse (fwdN 8380417 zetG 8 L) W HG.out)
    have HC3 := hid_of (fun W => call32_inverse L W hL)
    have HC4 := hid_of (fun W => call32_forward (fun i => invN 8380417 zetG 8 L i * 8347681 % 8380417) W HI.out)
    have E1 := polyA_ext .i64 (undo1_32 L hL)
    have E2 : polyA .i64 (fwdN 8380417 zetG 8 (fun i => invN 8380417 zetG 8 L i * 8347681 % 8380417)) = polyA .i64 L := polyA_ext .i64 (undo2_32 L hL)
    rw [E1] at HC2
    rw [E2] at HC4
    clear hL E1 E2 HG HI HL
    generalize fwdN 8380417 zetG 8 L = G at *
    generalize (fun i => invN 8380417 zetG 8 L i * 8347681 % 8380417) = I at *
    have n1 := new_alloc .i64 w1 (fun _ => 0) 24
    rw [← Try.z24] at n1
    have m1 := n1.r
    go_wp2_with (first | (refine wpL_store rfl .i64 24 _ _ rfl w1.heap.size 0 rfl _ rfl .i64 _ m1 Try.sP ?_; intro w2 p2) | (refine wpL_load rfl .i64 24 _ rfl w1.heap.size 0 rfl _ p2.r ⟨_, Try.uP⟩ Try.sP ?_))
    refine (HC1.out _).mono ?_
    rintro e w3 ⟨rfl, g3⟩
    have f3 := p2.r.new g3
    have q3 : w.grownBy w3 none := grownBy_trans (grown_new (grownBy_trans g1 n1.g) p2.g g1.size) g3
    have l13 := f3.lt
    clear n1 m1 p2 g3 g1 w2
    have n3 := new_alloc .i64 w3 (fun _ => 0) 24
    rw [← Try.z24] at n3
    have m3 := n3.r
    go_wp2_with (first | (refine wpL_store rfl .i64 24 _ _ rfl w3.heap.size 0 rfl _ rfl .i64 _ m3 Try.sP ?_; intro w4 p4) | (refine wpL_load rfl .i64 24 _ rfl w3.heap.size 0 rfl _ p4.r ⟨_, Try.uP⟩ Try.sP ?_))
    refine (HC2.out _).mono ?_
    rintro e w5 ⟨rfl, g5⟩
    have f5 := ((f3.new n3.g).far p4.g (by simp; omega)).new g5
    have q5 : w.grownBy w5 none := grownBy_trans (grown_new (grownBy_trans q3 n3.g) p4.g q3.size) g5
    have l15 := f5.lt
    clear n3 m3 p4 g5 f3 q3 w4
    have n5 := new_alloc .i64 w5 (fun _ => 0) 24
    rw [← Try.z24] at n5
    have m5 := n5.r
    go_wp2_with (first | (refine wpL_store rfl .i64 24 _ _ rfl w5.heap.size 0 rfl _ rfl .i64 _ m5 Try.sP ?_; intro w6 p6; have f6 := (f5.new n5.g).far p6.g (by simp; omega)) | (refine wpL_load rfl .i64 24 _ rfl w1.heap.size 0 rfl _ f6 ⟨_, Try.uP⟩ Try.sP ?_))
    refine (HC3.out _).mono ?_
    rintro e w7 ⟨rfl, g7⟩
    have f7 := f6.new g7
    have h7 := p6.r.new g7
    have q7 : w.grownBy w7 none := grownBy_trans (grown_new (grownBy_trans q5 n5.g) p6.g q5.size) g7
    have l17 := f7.lt
    have l57 := h7.lt
    clear n5 m5 p6 g7 f5 f6 q5 w6
    have n7 := new_alloc .i64 w7 (fun _ => 0) 24
    rw [← Try.z24] at n7
    have m7 := n7.r
    go_wp2_with (first | (refine wpL_store rfl .i64 24 _ _ rfl w7.heap.size 0 rfl _ rfl .i64 _ m7 Try.sP ?_; intro w8 p8) | (refine wpL_load rfl .i64 24 _ rfl w7.heap.size 0 rfl _ p8.r ⟨_, Try.uP⟩ Try.sP ?_))
    refine (HC4.out _).mono ?_
    rintro e w9 ⟨rfl, g9⟩
    have f9 := ((f7.new n7.g).far p8.g (by simp; omega)).new g9
    have h9 := ((h7.new n7.g).far p8.g (by simp; omega)).new g9
    have q9 : w.grownBy w9 none := grownBy_trans (grown_new (grownBy_trans q7 n7.g) p8.g q7.size) g9
    have l19 := f9.lt
    have l59 := h9.lt
    clear n7 m7 p8 g9 f7 h7 q7 w8
    have n9 := new_alloc .i64 w9 (fun _ => 0) 24
    rw [← Try.z24] at n9
    have m9 := n9.r
    go_wp2_with (first | (refine wpL_store rfl .i64 24 _ _ rfl w9.heap.size 0 rfl _ rfl .i64 _ m9 Try.sP ?_; intro wa pa; have fa := (f9.new n9.g).far pa.g (by simp; omega); have ha := (h9.new n9.g).far pa.g (by simp; omega); have ja := pa.r) | (refine wpG_load rfl .i64 24 _ rfl w5.heap.size 0 rfl _ ha ⟨_, Try.uP⟩ Try.sP ?_) | (refine wpG_load rfl .i64 24 _ rfl w1.heap.size 0 rfl _ fa ⟨_, Try.uP⟩ Try.sP ?_) | (refine wpG_load rfl .i64 24 _ rfl w9.heap.size 0 rfl _ ja ⟨_, Try.uP⟩ Try.sP ?_) | (refine wpG_eql rfl _ _ _ rfl _ rfl rfl ?_))
    go_ret
    exact ⟨rfl, grown_new (grownBy_trans q9 n9.g) pa.g q9.size⟩
end Go.Proofs.Ytkijpphmiogbbaa
