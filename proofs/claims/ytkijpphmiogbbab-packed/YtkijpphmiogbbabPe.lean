import Derived.Test.YtkijpphmiogbbabPd
import Derived.Test.YtkijpphmiogbbabLh
import Derived.Test.YtkijpphmiogbbabL1k
import Derived.Test.YtkijpphmiogbbabPk
namespace Go.Proofs.Ytkijpphmiogbbab
open Go.RowKit
attribute [local go_sem ↓] Go.wp_at_zero Go.wp_at_succ
attribute [local go_sem] Try.zv24 Try.zv42

theorem pk_nums (n : Nat) (hn1 : n ≤ 23) : ∃ T : Nat, T = 2 ^ n ∧ 0 < T ∧ T ≤ 8388608 ∧ (2 : Int) ^ n = (T : Int) ∧ wrap64 (T : Int) = T ∧ IntKind.i64.wrap (T : Int) = T := by
  have hT1 : 2 ^ n ≤ 8388608 := Nat.pow_le_pow_right (n := 2) (by omega) hn1
  have h0 := Nat.two_pow_pos n
  refine ⟨_, rfl, h0, hT1, by simp, ?_, ?_⟩
  · generalize (2 : Nat) ^ n = T at *
    unfold wrap64; omega
  · generalize (2 : Nat) ^ n = T at *
    rw [IntKind.wrap_i64] <;> omega
theorem pow_256 (d : Nat) : (2 ^ d) ^ 256 = 2 ^ (8 * (32 * d)) := by rw [← Nat.pow_mul]; congr 1; omega
/-- What is packed is unpacked. -/
theorem there_back (a : Nat → Nat) (d : Nat) (ha : ∀ i, i < 256 → a i < 2 ^ d) (i : Nat) (hi : i < 256) : dig (numT (strOf (bytesL (num (2 ^ d) a 256) (32 * d)))) d i = (a i : Int) := by
  have hl := num_lt (2 ^ d) a 256 ha
  rw [pow_256] at hl
  rw [numT_strOf, Nat.mod_eq_of_lt hl]
  unfold dig
  rw [Nat.pow_mul, num_digit (2 ^ d) a 256 i ha hi]
theorem back_there (t : ByteArray) (d : Nat) (ht : t.size = 32 * d) : strOf (bytesL (num (2 ^ d) (fun i => numT t / 2 ^ (d * i) % 2 ^ d) 256) (32 * d)) = t := by
  have hl : numT t < 2 ^ (8 * (32 * d)) := by
    have := num_lt 256 (txt t) t.size (fun i _ => txt_lt t i)
    rw [ht] at this
    rw [Nat.pow_mul]; unfold numT; rw [ht]; exact this
  have e : num (2 ^ d) (fun i => numT t / 2 ^ (d * i) % 2 ^ d) 256 = numT t := by
    rw [num_ext (2 ^ d) _ (fun i => numT t / (2 ^ d) ^ i % 2 ^ d) 256 (fun i _ => by rw [Nat.pow_mul]), num_of, pow_256, Nat.mod_eq_of_lt hl]
  rw [e, ← ht, strOf_numT]

set_option maxHeartbeats 2000000 in
set_option maxRecDepth 20000 in
theorem packed_any (c d : Int) (w : World) (hc : -9223372036854775808 ≤ c) (hc' : c ≤ 9223372036854775807) (hd : -9223372036854775808 ≤ d) (hd' : d ≤ 9223372036854775807) :
    Calls Try.prog 3 #[.int .i64 c, .int .i64 d] w fun e w' => e = .returned (.bool true) ∧ w.grownBy w' none := by
  go_enter Try.func3, Try.ntmps3
  go_wp2_with fail
  refine (pick_any d 23 _ hd hd' (by omega) (by omega)).mono ?_
  rintro e w' ⟨k, hk, rfl, hw⟩
  rw [hw]
  clear hw w'
  obtain ⟨n, hn⟩ : ∃ n : Nat, n = 1 + k := ⟨_, rfl⟩
  have hn0 : 1 ≤ n := by omega
  have hn1 : n ≤ 23 := by omega
  have hnk : (1 : Int) + (k : Int) = (n : Int) := by omega
  have hnw : IntKind.i64.wrap (n : Int) = n := by rw [IntKind.wrap_i64] <;> omega
  clear hn hk
  obtain ⟨T, hT, hT0, hT1, hTi, hTw, hTw3⟩ := pk_nums n hn1
  obtain ⟨ti, hti⟩ : ∃ ti : Int, ti = (T : Int) := ⟨_, rfl⟩
  rw [← hti] at hTi hTw hTw3
  have ht0 : 0 < ti := by omega
  have ht1 : ti ≤ 8388608 := by omega
  have HT := hid_mkP hT
  have HTI := hid_mkP hti
  clear hT hti hT0 hT1
  go_wp2_with fail
  refine (drawn_any c ti _ hc hc' (by omega) (by omega)).mono ?_
  rintro e w1 ⟨F, hF, rfl, g1⟩
  obtain ⟨L, hL⟩ : ∃ L : Nat → Nat, ∀ i, i < 256 → F i = (L i : Int) := ⟨fun i => (F i).toNat, fun i hi => (Int.toNat_of_nonneg (hF i hi).1).symm⟩
  have hLt : ∀ i, i < 256 → L i < 2 ^ n := fun i hi => by have h1 := (hF i hi).2; rw [hL i hi, HTI.out] at h1; rw [← HT.out]; omega
  rw [polyA_ext .i64 hL]
  have HL : Hid (∀ i, i < 256 → L i < 2 ^ n) := hLt
  clear hF hL hLt F
  have n1 := new_alloc .i64 w1 (fun _ => 0) 24
  rw [← Try.z24] at n1
  have m1 := n1.r
  go_wp2_with (first | (refine wpL_store rfl .i64 24 _ _ rfl w1.heap.size 0 rfl _ rfl .i64 _ m1 Try.sP ?_; intro w2 p2) | (refine wpL_load rfl .i64 24 _ rfl w1.heap.size 0 rfl _ p2.r ⟨_, Try.uP⟩ Try.sP ?_))
  refine (pack_any L n w2 hn0 hn1 HL.out).mono ?_
  rintro e w3 ⟨rfl, g3⟩
  have f3 := p2.r.new g3
  have q3 : w.grownBy w3 none := grownBy_trans (grown_new (grownBy_trans g1 n1.g) p2.g g1.size) g3
  have hs : (strOf (bytesL (num (2 ^ n) L 256) (32 * n))).size = 32 * n := by rw [strOf_size, bytesL_len]
  have HB := hid_mkP (there_back L n HL.out)
  generalize strOf (bytesL (num (2 ^ n) L 256) (32 * n)) = s at *
  clear n1 m1 p2 g3 g1 w2
  go_wp2_with fail
  refine (unpack_any n s w3 hn0 hn1 hs).mono ?_
  rintro e w4 ⟨rfl, g4⟩
  rw [polyA_ext .i64 HB.out]
  have f4 := f3.new g4
  have q4 := grownBy_trans q3 g4
  have l14 := f4.lt
  have s4 := q4.size
  clear f3 q3 g4
  have n4 := new_alloc .i64 w4 (fun _ => 0) 24
  rw [← Try.z24] at n4
  have m4 := n4.r
  go_wp2_with (first | (refine wpL_store rfl .i64 24 _ _ rfl w4.heap.size 0 rfl _ rfl .i64 _ m4 Try.sP ?_; intro w5 p5))
  have f5 := (f4.new n4.g).far p5.g (by simp; omega)
  have k5 := p5.r
  have q5 : w.grownBy w5 none := grown_new (grownBy_trans q4 n4.g) p5.g q4.size
  clear n4 m4 p5 f4 q4
  have hby := bytes_any c (32 * n) w5 hc hc' (by omega) (by omega)
  rw [show ((32 * n : Nat) : Int) = 32 * (n : Int) by simp] at hby
  refine hby.mono ?_
  rintro e w6 ⟨t, ht, rfl, g6⟩
  have f6 := f5.new g6
  have k6 := k5.new g6
  have q6 := grownBy_trans q5 g6
  clear hby f5 k5 q5 g6
  go_wp2_with fail
  refine (unpack_any n t w6 hn0 hn1 ht).mono ?_
  rintro e w7 ⟨rfl, g7⟩
  have f7 := f6.new g7
  have k7 := k6.new g7
  have q7 := grownBy_trans q6 g7
  have l47 := k7.lt
  have s7 := q7.size
  obtain ⟨M, hMe⟩ : ∃ M : Nat → Nat, M = fun i => numT t / 2 ^ (n * i) % 2 ^ n := ⟨_, rfl⟩
  have hBT := back_there t n ht
  rw [← hMe] at hBT
  have HBT := hid_mkP hBT
  have hM : ∀ i, i < 256 → M i < 2 ^ n := fun i _ => by rw [hMe]; exact Nat.mod_lt _ (Nat.two_pow_pos n)
  have eM : polyA .i64 (dig (numT t) n) = polyA .i64 (fun i => (M i : Int)) := polyA_ext .i64 (fun i _ => by rw [hMe]; rfl)
  rw [eM]
  have HM := hid_mkP hM
  clear f6 k6 q6 g7 eM hM hMe hBT
  have n7 := new_alloc .i64 w7 (fun _ => 0) 24
  rw [← Try.z24] at n7
  have m7 := n7.r
  go_wp2_with (first | (refine wpL_store rfl .i64 24 _ _ rfl w7.heap.size 0 rfl _ rfl .i64 _ m7 Try.sP ?_; intro w8 p8) | (refine wpL_load rfl .i64 24 _ rfl w7.heap.size 0 rfl _ p8.r ⟨_, Try.uP⟩ Try.sP ?_))
  refine (pack_any M n w8 hn0 hn1 HM.out).mono ?_
  rintro e w9 ⟨rfl, g9⟩
  rw [HBT.out]
  have f9 := ((f7.new n7.g).far p8.g (by simp; omega)).new g9
  have k9 := ((k7.new n7.g).far p8.g (by simp; omega)).new g9
  have q9 : w.grownBy w9 none := grownBy_trans (grown_new (grownBy_trans q7 n7.g) p8.g q7.size) g9
  clear n7 m7 p8 f7 k7 q7 g9 HM HBT HB
  have hs2 : (s.size : Int) = 32 * (n : Int) := by omega
  go_wp2_with (first | (refine wpG_load rfl .i64 24 _ rfl w4.heap.size 0 rfl _ k9 ⟨_, Try.uP⟩ Try.sP ?_) | (refine wpG_load rfl .i64 24 _ rfl w1.heap.size 0 rfl _ f9 ⟨_, Try.uP⟩ Try.sP ?_) | (refine wpG_eql rfl _ _ _ rfl _ rfl rfl ?_))
  go_ret
  exact ⟨rfl, q9⟩
end Go.Proofs.Ytkijpphmiogbbab
