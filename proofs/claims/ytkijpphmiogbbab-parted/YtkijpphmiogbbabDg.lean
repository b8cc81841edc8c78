import Derived.Test.YtkijpphmiogbbabDf
import Derived.Test.YtkijpphmiogbbabDh
import Derived.BigQuiet
namespace Go.Proofs.Ytkijpphmiogbbab
open Go.RowKit
attribute [local go_sem ↓] Go.wp_at_zero Go.wp_at_succ
attribute [local go_sem] Try.zv24 Try.zv42

theorem dec_mod (g h l x : Int) (hs : h * (2 * g) + l - x = 0 ∨ h * (2 * g) + l - x = -8380417) : (h * 2 * g + l - x).tmod 8380417 = 0 := by
  rw [Int.mul_assoc]
  rcases hs with e | e <;> rw [e] <;> rfl
set_option maxHeartbeats 4000000 in
set_option maxRecDepth 20000 in
theorem parted_any (s c : Int) (w : World) (hs : -9223372036854775808 ≤ s) (hs' : s ≤ 9223372036854775807) (hc : -9223372036854775808 ≤ c) (hc' : c ≤ 9223372036854775807) :
    Calls Try.prog 4 #[.int .i64 s, .int .i64 c] w fun e w' => e = .returned (.bool true) ∧ w.grownBy w' none := by
  go_enter Try.func4, Try.ntmps4
  go_wp2_with fail
  refine (signing_any s _ hs hs').mono ?_
  rintro e w0 ⟨n, g, kk, o, hset, rfl, g0⟩
  go_wp2_with fail
  refine (drawn_any c 8380417 _ hc hc' (by omega) (by omega)).mono ?_
  rintro e w1 ⟨L, hL, rfl, g1⟩
  have HL : Hid (∀ i, i < 256 → 0 ≤ L i ∧ L i < 8380417) := hL
  have HS : Hid (IsSet n g kk o) := hset
  have HG : Hid (∀ W, Calls Try.prog 13 #[.int .i64 n] W fun e w' => e = .returned (.int .i64 g) ∧ w' = W) := fun W => gamma_any n g kk o W hset
  clear hL hset
  have q1 := grownBy_trans g0 g1
  clear g0 g1
  have n1 := new_alloc .i64 w1 (fun _ => 0) 24
  rw [← Try.z24] at n1
  have m1 := n1.r
  go_wp2_with (first | (refine wpL_store rfl .i64 24 _ _ rfl w1.heap.size 0 rfl _ rfl .i64 _ m1 Try.sP ?_; intro w2 p2) | (refine wpL_load rfl .i64 24 _ rfl w1.heap.size 0 rfl _ p2.r ⟨_, Try.uP⟩ Try.sP ?_))
  refine (Halve_any L w2 HL.out).mono ?_
  rintro e w3 ⟨rfl, g3⟩
  have f3 := p2.r.new g3
  have q3 : w.grownBy w3 none := grownBy_trans (grown_new (grownBy_trans q1 n1.g) p2.g q1.size) g3
  have l13 := f3.lt
  have s1 := q1.size
  clear n1 m1 p2 g3 q1 w2
  have n3 := new_alloc .i64 w3 (fun _ => 0) 24
  rw [← Try.z24] at n3
  have n4 := new_alloc .i64 (w3.alloc (.cells Try.zeroCells24 24)) (fun _ => 0) 24
  rw [← Try.z24] at n4
  have r3 := n3.r.new n4.g
  have r4 := n4.r
  rw [n3.s] at r4
  have f4 := (f3.new n3.g).new n4.g
  have q4 := grownBy_trans q3 (grownBy_trans n3.g n4.g)
  clear n3 n4 f3
  go_wp2_with (first | (refine wpL_store rfl .i64 24 _ _ rfl w3.heap.size 0 rfl _ rfl .i64 _ r3 Try.sP ?_; intro w5 p5) | (refine wpL_store rfl .i64 24 _ _ rfl (w3.heap.size + 1) 0 rfl _ rfl .i64 _ (r4.far p5.g (by simp)) Try.sP ?_; intro w6 p6; have f6 := (f4.far p5.g (by simp; omega)).far p6.g (by simp; omega)) | (refine wpL_load rfl .i64 24 _ rfl w1.heap.size 0 rfl _ f6 ⟨_, Try.uP⟩ Try.sP ?_))
  refine (Decompose_any L n g kk o w6 HS.out HL.out).mono ?_
  rintro e w7 ⟨rfl, g7⟩
  have s3 := q3.size
  have f7 := f6.new g7
  have a7 := (p5.r.far p6.g (by simp)).new g7
  have b7 := p6.r.new g7
  have l37 := b7.lt
  have q7 := grownBy_trans (grown_new (grown_new q4 p5.g (by omega)) p6.g (by omega)) g7
  clear f6 p5 p6 g7 q4 q3 r3 r4 f4
  have n7 := new_alloc .i64 w7 (fun _ => 0) 24
  rw [← Try.z24] at n7
  have n8 := new_alloc .i64 (w7.alloc (.cells Try.zeroCells24 24)) (fun _ => 0) 24
  rw [← Try.z24] at n8
  have r7 := n7.r.new n8.g
  have r8 := n8.r
  rw [n7.s] at r8
  have s7 := q7.size
  replace f7 := (f7.new n7.g).new n8.g
  replace a7 := (a7.new n7.g).new n8.g
  replace b7 := (b7.new n7.g).new n8.g
  replace q7 := grownBy_trans q7 (grownBy_trans n7.g n8.g)
  clear n7 n8
  go_wp2_with (first | (refine wpL_store rfl .i64 24 _ _ rfl w7.heap.size 0 rfl _ rfl .i64 _ r7 Try.sP ?_; intro w9 p9) | (refine wpL_store rfl .i64 24 _ _ rfl (w7.heap.size + 1) 0 rfl _ rfl .i64 _ (r8.far p9.g (by simp)) Try.sP ?_; intro wa pa) | (go_at_call 13; refine (HG.out _).mono ?_; rintro e w' ⟨rfl, hw⟩; rw [hw]; clear hw w'))
  have fa := (f7.far p9.g (by simp; omega)).far pa.g (by simp; omega)
  have aa := (a7.far p9.g (by simp; omega)).far pa.g (by simp; omega)
  have ba := (b7.far p9.g (by simp; omega)).far pa.g (by simp; omega)
  have ha := p9.r.far pa.g (by simp)
  have la := pa.r
  have qa := grown_new (grown_new q7 p9.g (by omega)) pa.g (by omega)
  clear f7 a7 b7 q7 r7 r8 p9 pa
  have HF : Hid (∀ i, i < 256 → (halH (L i) * 8192 + cenI (L i) 8192 = L i ∧ 0 ≤ halH (L i) ∧ halH (L i) ≤ 1023 ∧ -4096 < cenI (L i) 8192 ∧ cenI (L i) 8192 ≤ 4096) ∧ (0 ≤ decH g (L i) ∧ decH g (L i) < 8380416 / (2 * g) ∧ -g ≤ decL g (L i) ∧ decL g (L i) ≤ g ∧ (decH g (L i) * (2 * g) + decL g (L i) - L i = 0 ∨ decH g (L i) * (2 * g) + decL g (L i) - L i = -8380417))) := fun i hi => by
    have h1 := hal_bounds (L i) (HL.out i hi).1 (HL.out i hi).2
    have h2 := dec_bounds g (L i) HS.out.gam (HL.out i hi).1 (HL.out i hi).2
    exact ⟨⟨h1.2.2.2.2, h1.1, h1.2.1, h1.2.2.1, h1.2.2.2.1⟩, h2⟩
  have hgm := HS.out.gam
  go_loopw [14] (fun i wr => ∃ j : Nat, j ≤ 256 ∧ i = .int .i64 j ∧ w.grownBy wr none ∧ PRow .i64 wr w1.heap.size 0 L ∧ PRow .i64 wr w3.heap.size 0 (fun i => halH (L i)) ∧ PRow .i64 wr (w3.heap.size + 1) 0 (fun i => cenI (L i) 8192) ∧ PRow .i64 wr w7.heap.size 0 (fun i => decH g (L i)) ∧ PRow .i64 wr (w7.heap.size + 1) 0 (fun i => decL g (L i))) (fun i _ => 256 - (intOf i).toNat)
  case atStart => exact ⟨0, by omega, rfl, qa, fa, aa, ba, ha, la⟩
  case round =>
    clear qa fa aa ba ha la
    obtain ⟨j, hj, rfl, hg, hf, hA, hB, hH, hD⟩ := hrel
    by_cases hlt : j < 256
    · have b0 : (0 : Int) ≤ (j : Int) := by omega
      have b1 : (j : Int) < 256 := by omega
      have cf := (hf.at0 j hlt).1
      have cA := (hA.at0 j hlt).1
      have cB := (hB.at0 j hlt).1
      have cH := (hH.at0 j hlt).1
      have cD := (hD.at0 j hlt).1
      have x0 := (HL.out j hlt).1
      have x1 := (HL.out j hlt).2
      have hF := HF.out j hlt
      generalize L j = x at *
      generalize halH x = A at *
      generalize cenI x 8192 = Bv at *
      generalize decH g x = H at *
      generalize decL g x = D at *
      obtain ⟨⟨e1, a0, a1, b2, b3⟩, h0, h1, d0, d1, e2⟩ := hF
      replace e2 := dec_mod g H D x e2
      have u1 : decide (Bv ≤ -4096) = false := by simp; omega
      have u2 : decide (4096 < Bv) = false := by simp; omega
      have u3 : decide (A < 0) = false := by simp; omega
      have u4 : decide (1023 < A) = false := by simp; omega
      go_wp2_with fail
      go_quiet (fail)
      have v3 : decide (H < 0) = false := by simp; omega
      clear u1 u2 u3 u4 HG HS HF cA cB
      rcases hgm with rfl | rfl
      · have v1 : decide (D < -95232) = false := by simp; omega
        have v2 : decide (95232 < D) = false := by simp; omega
        have v4 : decide (44 ≤ H) = false := by simp; omega
        have h44 : H < 44 := by omega
        clear h1
        go_wp2_with fail
        go_quiet (fail)
        go_wp2
        go_roundw
        case rel => exact ⟨j + 1, by omega, by go_num, ⟨hg.os, hg.tape, hg.output, hg.size, hg.block⟩, hf, hA, hB, hH, hD⟩
        case measure => simp [intOf]; omega
      · have v1 : decide (D < -261888) = false := by simp; omega
        have v2 : decide (261888 < D) = false := by simp; omega
        have v4 : decide (16 ≤ H) = false := by simp; omega
        have h16 : H < 16 := by omega
        clear h1
        go_wp2_with fail
        go_quiet (fail)
        go_wp2
        go_roundw
        case rel => exact ⟨j + 1, by omega, by go_num, ⟨hg.os, hg.tape, hg.output, hg.size, hg.block⟩, hf, hA, hB, hH, hD⟩
        case measure => simp [intOf]; omega
    · have hj6 : j = 256 := by omega
      subst hj6
      go_wp2
      go_ret
      exact ⟨rfl, hg⟩
end Go.Proofs.Ytkijpphmiogbbab
