import Derived.Test.YtkijpphmiogbbaaLf
import Derived.Test.YtkijpphmiogbbaaLh
import Derived.Test.YtkijpphmiogbbaaL1k
namespace Go.Proofs.Ytkijpphmiogbbaa
open Go.RowKit
attribute [local go_sem ↓] Go.wp_at_zero Go.wp_at_succ

theorem farI_int (a b : Nat) (ha : a < 3329) (hb : b < 3329) : ((farI a b : Nat) : Int) = if 3329 - ((a : Int) - b + 3329) % 3329 < ((a : Int) - b + 3329) % 3329 then 3329 - ((a : Int) - b + 3329) % 3329 else ((a : Int) - b + 3329) % 3329 := by
  unfold farI
  cases h : Nat.blt (3329 - (a + 3329 - b) % 3329) ((a + 3329 - b) % 3329)
  · have h' : ¬ (3329 - (a + 3329 - b) % 3329) < ((a + 3329 - b) % 3329) := by rw [← Nat.blt_eq, h]; simp
    rw [cond_false, if_neg (by omega)]; omega
  · have h' : (3329 - (a + 3329 - b) % 3329) < ((a + 3329 - b) % 3329) := Nat.blt_eq.mp h
    rw [cond_true, if_pos (by omega)]; omega
set_option maxHeartbeats 400000 in
theorem far_any (a b : Nat) (w : World) (ha : a < 3329) (hb : b < 3329) :
    Calls Try.prog 14 #[.int .i64 a, .int .i64 b, .int .i64 3329] w fun e w' => e = .returned (.int .i64 ((farI a b : Nat) : Int)) ∧ w' = w := by
  rw [farI_int a b ha hb]
  obtain ⟨d, hd⟩ : ∃ d : Nat, (d : Int) = ((a : Int) - b + 3329) % 3329 := ⟨(((a : Int) - b + 3329) % 3329).toNat, by omega⟩
  have m1 : ((a : Int) - b + 3329).tmod 3329 = (d : Int) := by rw [Int.tmod_eq_emod_of_nonneg (by omega)]; exact hd.symm
  have m2 : ((a : Int) - b + 3329) % 3329 = (d : Int) := hd.symm
  have hd1 : d < 3329 := by omega
  rw [m2]
  clear hd
  by_cases h : 3329 - (d : Int) < (d : Int)
  · rw [if_pos h]
    have hb1 : decide (3329 - (d : Int) < (d : Int)) = true := by simpa using h
    go_enter Try.func14, Try.ntmps14
    go_wp2
    go_ret
    exact ⟨rfl, rfl⟩
  · rw [if_neg h]
    have hb1 : decide (3329 - (d : Int) < (d : Int)) = false := by simpa using h
    go_enter Try.func14, Try.ntmps14
    go_wp2
    go_ret
    exact ⟨rfl, rfl⟩

theorem close_nums (n : Nat) (hn1 : n ≤ 11) : ∃ M T : Nat, M = (3329 + 2 ^ n) / 2 ^ (n + 1) ∧ T = 2 ^ n ∧ T ≤ 2048 ∧ (2 : Int) ^ n = (T : Int) ∧ wrap64 (T : Int) = T ∧ IntKind.i64.wrap (T : Int) = T ∧ wrap64 (3329 + wrap64 (2 ^ n)) / 2 ^ (n + 1) = (M : Int) := by
  have hT1 : 2 ^ n ≤ 2048 := Nat.pow_le_pow_right (n := 2) (by omega) hn1
  have hTi : (2 : Int) ^ n = ((2 ^ n : Nat) : Int) := by simp
  have h2 : (2 : Int) ^ (n + 1) = ((2 ^ (n + 1) : Nat) : Int) := by simp
  refine ⟨_, _, rfl, rfl, hT1, hTi, ?_, ?_, ?_⟩
  · generalize (2 : Nat) ^ n = T at *
    clear hTi h2 hn1
    unfold wrap64
    omega
  · generalize (2 : Nat) ^ n = T at *
    clear hTi h2 hn1
    rw [IntKind.wrap_i64] <;> omega
  · rw [h2, hTi]
    generalize (2 : Nat) ^ (n + 1) = S at *
    generalize (2 : Nat) ^ n = T at *
    clear hTi h2 hn1
    have h3 : wrap64 (T : Int) = T := by unfold wrap64; omega
    have h4 : wrap64 (3329 + (T : Int)) = ((3329 + T : Nat) : Int) := by unfold wrap64; omega
    rw [h3, h4]; exact (Int.natCast_ediv _ _).symm
set_option maxHeartbeats 2000000 in
set_option maxRecDepth 20000 in
theorem close_any (c d : Int) (w : World) (hc : -9223372036854775808 ≤ c) (hc' : c ≤ 9223372036854775807) (hd : -9223372036854775808 ≤ d) (hd' : d ≤ 9223372036854775807) :
    Calls Try.prog 5 #[.int .i64 c, .int .i64 d] w fun e w' => e = .returned (.bool true) ∧ w.grownBy w' none := by
  go_enter Try.func5, Try.ntmps5
  go_wp2_with fail
  refine (pick_any d 11 _ hd hd' (by omega) (by omega)).mono ?_
  rintro e w' ⟨k, hk, rfl, hw⟩
  rw [hw]
  clear hw w'
  obtain ⟨n, hn⟩ : ∃ n : Nat, n = 1 + k := ⟨_, rfl⟩
  have hn0 : 1 ≤ n := by omega
  have hn1 : n ≤ 11 := by omega
  have hnk : (1 : Int) + (k : Int) = (n : Int) := by omega
  have hnw : IntKind.i64.wrap (n : Int) = n := by rw [IntKind.wrap_i64] <;> omega
  clear hn hk
  go_wp2_with fail
  refine (drawn_any c 3329 _ hc hc' (by omega) (by omega)).mono ?_
  rintro e w1 ⟨F, hF, rfl, g1⟩
  obtain ⟨L, hL⟩ : ∃ L : Nat → Nat, ∀ i, i < 256 → F i = (L i : Int) := ⟨fun i => (F i).toNat, fun i hi => (Int.toNat_of_nonneg (hF i hi).1).symm⟩
  have hLt : ∀ i, i < 256 → L i < 3329 := fun i hi => by have h1 := (hF i hi).2; rw [hL i hi] at h1; omega
  rw [polyA_ext .i64 hL]
  have HL : Hid (∀ i, i < 256 → L i < 3329) := hLt
  clear hF hL hLt F
  have n1 := new_alloc .i64 w1 (fun _ => 0) 24
  rw [← Try.z24] at n1
  have m1 := n1.r
  go_wp2_with (first | (refine wpL_store rfl .i64 24 _ _ rfl w1.heap.size 0 rfl _ rfl .i64 _ m1 Try.sP ?_; intro w2 p2) | (refine wpL_load rfl .i64 24 _ rfl w1.heap.size 0 rfl _ p2.r ⟨_, Try.uP⟩ Try.sP ?_))
  refine (compress_any L n w2 HL.out hn0 hn1).mono ?_
  rintro e w3 ⟨rfl, g3⟩
  have f3 := p2.r.new g3
  have q3 : w.grownBy w3 none := grownBy_trans (grown_new (grownBy_trans g1 n1.g) p2.g g1.size) g3
  have HG : Hid (∀ i, i < 256 → compI n (L i) < 2 ^ n) := fun i hi => (fine_at n (L i) hn0 hn1 (HL.out i hi)).1
  have l13 := f3.lt
  have s1 := g1.size
  clear n1 m1 p2 g3 g1 w2
  have n3 := new_alloc .i64 w3 (fun _ => 0) 24
  rw [← Try.z24] at n3
  have m3 := n3.r
  go_wp2_with (first | (refine wpL_store rfl .i64 24 _ _ rfl w3.heap.size 0 rfl _ rfl .i64 _ m3 Try.sP ?_; intro w4 p4) | (refine wpL_load rfl .i64 24 _ rfl w3.heap.size 0 rfl _ p4.r ⟨_, Try.uP⟩ Try.sP ?_))
  refine (decompress_any (fun i => compI n (L i)) n w4 HG.out hn0 hn1).mono ?_
  rintro e w5 ⟨rfl, g5⟩
  have f5 := ((f3.new n3.g).far p4.g (by simp; omega)).new g5
  have k5 := p4.r.new g5
  have q5 : w.grownBy w5 none := grownBy_trans (grown_new (grownBy_trans q3 n3.g) p4.g q3.size) g5
  have l35 := k5.lt
  have s3 := q3.size
  clear n3 m3 p4 g5 f3 q3 w4
  have HH : Hid (∀ i, i < 256 → decI n (compI n (L i)) < 3329) := fun i hi => (fine_at n (L i) hn0 hn1 (HL.out i hi)).2.1
  have n5 := new_alloc .i64 w5 (fun _ => 0) 24
  rw [← Try.z24] at n5
  have m5 := n5.r
  go_wp2_with (first | (refine wpL_store rfl .i64 24 _ _ rfl w5.heap.size 0 rfl _ rfl .i64 _ m5 Try.sP ?_; intro w6 p6) | (refine wpL_load rfl .i64 24 _ rfl w5.heap.size 0 rfl _ p6.r ⟨_, Try.uP⟩ Try.sP ?_))
  refine (compress_any (fun i => decI n (compI n (L i))) n w6 HH.out hn0 hn1).mono ?_
  rintro e w7 ⟨rfl, g7⟩
  have f7 := ((f5.new n5.g).far p6.g (by simp; omega)).new g7
  have k7 := ((k5.new n5.g).far p6.g (by simp; omega)).new g7
  have h7 := p6.r.new g7
  have q7 : w.grownBy w7 none := grownBy_trans (grown_new (grownBy_trans q5 n5.g) p6.g q5.size) g7
  have l57 := h7.lt
  have s5 := q5.size
  have e7 : polyA .i64 (fun i => ((compI n (decI n (compI n (L i))) : Nat) : Int)) = polyA .i64 (fun i => ((compI n (L i) : Nat) : Int)) := polyA_ext .i64 (fun i hi => by rw [(fine_at n (L i) hn0 hn1 (HL.out i hi)).2.2.1])
  rw [e7]
  clear n5 m5 p6 g7 f5 k5 q5 w6 e7
  have n7 := new_alloc .i64 w7 (fun _ => 0) 24
  rw [← Try.z24] at n7
  have m7 := n7.r
  go_wp2_with (first | (refine wpL_store rfl .i64 24 _ _ rfl w7.heap.size 0 rfl _ rfl .i64 _ m7 Try.sP ?_; intro w8 p8; have k8 := (k7.new n7.g).far p8.g (by simp; omega)) | (refine wpG_load rfl .i64 24 _ rfl w7.heap.size 0 rfl _ p8.r ⟨_, Try.uP⟩ Try.sP ?_) | (refine wpG_load rfl .i64 24 _ rfl w3.heap.size 0 rfl _ k8 ⟨_, Try.uP⟩ Try.sP ?_) | (refine wpG_neq rfl _ _ _ rfl _ rfl rfl ?_))
  have f8 := (f7.new n7.g).far p8.g (by simp; omega)
  have h8 := (h7.new n7.g).far p8.g (by simp; omega)
  have q8 : w.grownBy w8 none := grown_new (grownBy_trans q7 n7.g) p8.g q7.size
  clear n7 m7 p8 f7 k7 h7 q7
  obtain ⟨M, T, hM, hT, hT1, hTi, hTw, hTw3, hMi⟩ := close_nums n hn1
  rw [hMi]
  obtain ⟨mi, hmi⟩ : ∃ mi : Int, mi = (M : Int) := ⟨_, rfl⟩
  obtain ⟨ti, hti⟩ : ∃ ti : Int, ti = (T : Int) := ⟨_, rfl⟩
  rw [← hmi]
  rw [← hti] at hTi hTw hTw3
  rw [hTi, hTw]
  have HF : Hid (∀ i, i < 256 → farI (L i) (decI n (compI n (L i))) ≤ M ∧ compI n (L i) < T) := fun i hi => by
    have h := fine_at n (L i) hn0 hn1 (HL.out i hi)
    rw [hM, hT]; exact ⟨h.2.2.2, h.1⟩
  clear hM hT hMi
  go_loopw [14] (fun i wr => ∃ j : Nat, j ≤ 256 ∧ i = .int .i64 j ∧ w.grownBy wr none ∧ PRow .i64 wr w1.heap.size 0 (fun i => (L i : Int)) ∧ PRow .i64 wr w3.heap.size 0 (fun i => ((compI n (L i) : Nat) : Int)) ∧ PRow .i64 wr w5.heap.size 0 (fun i => ((decI n (compI n (L i)) : Nat) : Int))) (fun i _ => 256 - (intOf i).toNat)
  case atStart => exact ⟨0, by omega, rfl, q8, f8, k8, h8⟩
  case round =>
    clear q8 f8 k8 h8
    obtain ⟨j, hj, rfl, hg, hf, hk, hh⟩ := hrel
    by_cases hlt : j < 256
    · have b0 : (0 : Int) ≤ (j : Int) := by omega
      have b1 : (j : Int) < 256 := by omega
      have cf := (hf.at0 j hlt).1
      have ck := (hk.at0 j hlt).1
      have ch := (hh.at0 j hlt).1
      have x1 := HL.out j hlt
      have x2 := HH.out j hlt
      have x3 := (HF.out j hlt).1
      have x4 := (HF.out j hlt).2
      generalize L j = a at *
      generalize compI n a = g at *
      generalize decI n g = h at *
      obtain ⟨r, hr⟩ : ∃ r : Int, r = ((farI a h : Nat) : Int) := ⟨_, rfl⟩
      obtain ⟨gi, hgi⟩ : ∃ gi : Int, gi = (g : Int) := ⟨_, rfl⟩
      have hfar := fun W => far_any a h W x1 x2
      rw [← hr] at hfar
      rw [← hgi] at ck
      have HFA := hid_mk hfar
      have e1 : decide (mi < r) = false := by simp; omega
      have e2 : decide (gi < 0) = false := by simp; omega
      have e3 : decide (ti ≤ gi) = false := by simp; omega
      clear hfar hr hgi
      clear x3 x4 hmi hti hT1
      go_wp2
      go_region_held3 (fun w' => w'.cell? ⟨w1.heap.size, j, none⟩ = some (.int .i64 (a : Int)) ∧ w'.cell? ⟨w3.heap.size, j, none⟩ = some (.int .i64 gi) ∧ w'.cell? ⟨w5.heap.size, j, none⟩ = some (.int .i64 (h : Int))) (go_keep) (first | (go_at_call 14; refine (HFA.out _).mono ?_; rintro e w' ⟨rfl, rfl⟩))
      go_wp2
      go_roundw
      case rel => exact ⟨j + 1, by omega, by go_num, grown_drew hg, hf.drew, hk.drew, hh.drew⟩
      case measure => simp [intOf]; omega
    · have hj6 : j = 256 := by omega
      subst hj6
      go_wp2
      go_ret
      exact ⟨rfl, hg⟩
end Go.Proofs.Ytkijpphmiogbbaa
