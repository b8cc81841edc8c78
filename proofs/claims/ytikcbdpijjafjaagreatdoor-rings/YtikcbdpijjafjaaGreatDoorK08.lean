import Derived.Test.YtikcbdpijjafjaaGreatDoorK04
import Derived.Test.YtikcbdpijjafjaaGreatDoorK07
namespace Go.Proofs.YtikcbdpijjafjaaGreatDoor.Z
open Go.RowKit
attribute [local go_sem ↓] Go.wp_at_zero Go.wp_at_succ

theorem mul_bd (a b q : Int) (ha : 0 ≤ a) (ha1 : a < q) (hb : 0 ≤ b) (hb1 : b < q) (hq : q ≤ 8380417) : 0 ≤ a * b ∧ a * b ≤ 70231389093889 := by
  have h1 : a * b ≤ 8380417 * 8380417 := Int.mul_le_mul (by omega) (by omega) hb (by omega)
  have h2 : 0 ≤ a * b := Int.mul_nonneg ha hb
  omega
theorem mulmod_val (a b q : Int) (ha : 0 ≤ a) (ha1 : a < q) (hb : 0 ≤ b) (hb1 : b < q) (hq : q ≤ 8380417) : (wrap64 (a * b)).tmod q = a * b % q ∧ IntKind.i64.wrap (a * b) = a * b ∧ (a * b).tmod q = a * b % q := by
  obtain ⟨h0, h1⟩ := mul_bd a b q ha ha1 hb hb1 hq
  have e : IntKind.i64.wrap (a * b) = a * b := by rw [IntKind.wrap_i64] <;> omega
  exact ⟨by rw [wrap_id _ (by omega) (by omega), Int.tmod_eq_emod_of_nonneg h0], e, Int.tmod_eq_emod_of_nonneg h0⟩
theorem pow_step (b q : Int) (k : Nat) : b ^ k % q * b % q = b ^ (k + 1) % q := by
  rw [Int.pow_succ, Int.mul_emod, Int.emod_emod_of_dvd _ (Int.dvd_refl q), ← Int.mul_emod]
set_option maxHeartbeats 2000000 in
set_option maxRecDepth 20000 in
theorem power_any (b : Int) (n : Nat) (h0 : 0 ≤ b) (h1 : b < 3329) (hn : n ≤ 100000) (w : World) :
    Calls Tryz.prog 198 #[.int .i64 b, .int .i64 n] w fun e w' => e = .returned (.int .i64 (b ^ n % 3329)) ∧ w' = w := by
  have n0 : (0 : Int) ≤ (n : Int) := Int.natCast_nonneg n
  have n1 : (n : Int) ≤ 100000 := by omega
  go_enter Tryz.func198, Tryz.ntmps198
  go_wp2
  go_loopw [5, 6] (fun r i wr => ∃ (k : Nat) (v : Int), k ≤ n ∧ i = .int .i64 k ∧ r = .int .i64 v ∧ Hid (v = b ^ k % 3329) ∧ wr = w) (fun _ i _ => n - (intOf i).toNat)
  case atStart => exact ⟨0, 1, by omega, rfl, rfl, (by show (1 : Int) = b ^ 0 % 3329; simp), rfl⟩
  case round =>
    obtain ⟨k, v, hk, rfl, rfl, HV, rfl⟩ := hrel
    by_cases hlt : k < n
    · have k0 : (0 : Int) ≤ (k : Int) := Int.natCast_nonneg k
      have k1 : (k : Int) < n := by omega
      have v0 : 0 ≤ v := by rw [HV.out]; exact Int.emod_nonneg _ (by omega)
      have v1 : v < 3329 := by rw [HV.out]; exact Int.emod_lt_of_pos _ (by omega)
      obtain ⟨e1, e2, e3⟩ := mulmod_val v b 3329 v0 v1 h0 h1 (by omega)
      go_wp2
      refine ⟨⟨k + 1, _, by omega, by go_num, rfl, ?_, trivial⟩, by simp [intOf]; omega⟩
      show v * b % 3329 = _
      rw [HV.out, pow_step]
    · have hk6 : k = n := by omega
      subst hk6
      go_wp2
      go_ret
      exact ⟨by rw [← HV.out]; rfl, rfl⟩
theorem cast_pow (a n q : Nat) : ((a ^ n % q : Nat) : Int) = (a : Int) ^ n % (q : Int) := by rw [Int.natCast_emod, Int.natCast_pow]
def rvk (n : Nat) : Nat → Nat
  | 0 => 0
  | k + 1 => 2 * rvk n k + n / 2 ^ k % 2
theorem and_1 (v : Nat) (hv : v < 256) : bits BinOp.and IntKind.i64 (v : Int) 1 = ((v % 2 : Nat) : Int) := by
  have : ∀ v : Fin 256, bits BinOp.and IntKind.i64 ((v.val : Nat) : Int) 1 = ((v.val % 2 : Nat) : Int) := by decide +kernel
  exact this ⟨v, hv⟩
theorem bit_at (n k : Nat) (hn : n < 256) : bits BinOp.and IntKind.i64 ((n : Int) / 2 ^ k) 1 = ((n / 2 ^ k % 2 : Nat) : Int) := by
  have e : ((n : Int) / 2 ^ k) = ((n / 2 ^ k : Nat) : Int) := by push_cast; rfl
  rw [e, and_1 _ (Nat.lt_of_le_of_lt (Nat.div_le_self _ _) hn)]
theorem rvk7 (n : Nat) (h : n < 128) : rvk n 7 = rev8 n / 2 := by
  have : ∀ n : Fin 128, rvk n.val 7 = rev8 n.val / 2 := by decide +kernel
  exact this ⟨n, h⟩
theorem rvk8 (n : Nat) (h : n < 256) : rvk n 8 = rev8 n := by
  have : ∀ n : Fin 256, rvk n.val 8 = rev8 n.val := by decide +kernel
  exact this ⟨n, h⟩
theorem rvk_lt (n : Nat) : ∀ k, rvk n k < 2 ^ k
  | 0 => by simp [rvk]
  | k + 1 => by have := rvk_lt n k; rw [rvk, Nat.pow_succ]; omega
set_option maxHeartbeats 2000000 in
set_option maxRecDepth 20000 in
theorem reversed_any (n : Nat) (hn : n < 128) (w : World) :
    Calls Tryz.prog 276 #[.int .i64 n] w fun e w' => e = .returned (.int .i64 ((rev8 n / 2 : Nat) : Int)) ∧ w' = w := by
  have n0 : (0 : Int) ≤ (n : Int) := Int.natCast_nonneg n
  have n1 : (n : Int) < 128 := by omega
  go_enter Tryz.func276, Tryz.ntmps276
  go_wp2
  go_loopw [3, 4] (fun r i wr => ∃ (k v : Nat), k ≤ 7 ∧ i = .int .i64 k ∧ r = .int .i64 v ∧ Hid (v = rvk n k) ∧ wr = w) (fun _ i _ => 7 - (intOf i).toNat)
  case atStart => exact ⟨0, 0, by omega, rfl, rfl, (by show 0 = rvk n 0; rfl), rfl⟩
  case round =>
    obtain ⟨k, v, hk, rfl, rfl, HV, rfl⟩ := hrel
    by_cases hlt : k < 7
    · have k0 : (0 : Int) ≤ (k : Int) := Int.natCast_nonneg k
      have k1 : (k : Int) < 7 := by omega
      have v1 : v < 128 := by
        have h := rvk_lt n k
        have h2 : 2 ^ k ≤ 2 ^ 7 := Nat.pow_le_pow_right (by omega) (by omega)
        have := HV.out
        omega
      have e1 := hidz (bit_at n k (by omega))
      go_wp2
      refine ⟨⟨k + 1, 2 * v + n / 2 ^ k % 2, by omega, by go_num, ?_, ?_, trivial⟩, by simp [intOf]; omega⟩
      · rw [e1.out, wrap_id _ (by omega) (by omega)]; rfl
      · show _ = rvk n (k + 1)
        rw [rvk, HV.out]
    · have hk6 : k = 7 := by omega
      subst hk6
      go_wp2
      go_ret
      exact ⟨by rw [← rvk7 n hn, ← HV.out]; rfl, rfl⟩
theorem sq_facts (q r b b2 : Int) (n : Nat) (X : Int) (h : Cg q (r * b ^ n) X) (hb : b2 = b * b % q) : Cg q (r * b2 ^ (n / 2) * (if n % 2 = 1 then b else 1)) X := by
  have e : Cg q (b2 ^ (n / 2)) (b ^ (2 * (n / 2))) := by rw [pow_two, hb]; exact (cg_mod q _).pow _
  by_cases hn : n % 2 = 1
  · rw [if_pos hn]
    refine Cg.trans (((Cg.refl q r).mul e).mul (Cg.refl q b)) (Cg.trans (.of_eq ?_) h)
    rw [Int.mul_assoc, ← Int.pow_succ]
    congr 2
    show 2 * (n / 2) + 1 = n
    omega
  · rw [if_neg hn]
    refine Cg.trans (((Cg.refl q r).mul e).mul (Cg.refl q 1)) (Cg.trans (.of_eq ?_) h)
    rw [Int.mul_one, show 2 * (n / 2) = n by omega]
set_option maxHeartbeats 2000000 in
set_option maxRecDepth 20000 in
theorem powerGreat_any (b : Int) (n : Nat) (h0 : 0 ≤ b) (h1 : b < 8380417) (hn : n ≤ 8380417) (w : World) :
    Calls Tryz.prog 197 #[.int .i64 b, .int .i64 n] w fun e w' => e = .returned (.int .i64 (b ^ n % 8380417)) ∧ w' = w := by
  obtain ⟨X, hX⟩ : ∃ X : Int, X = b ^ n := ⟨_, rfl⟩
  have HX : Hid (X = b ^ n) := hX
  rw [← hX]
  have HS : Hid (Cg 8380417 (1 * b ^ n) X) := .of_eq (by omega)
  clear hX
  go_enter Tryz.func197, Tryz.ntmps197
  go_wp2
  go_loopw [0, 1, 5] (fun bb nn r wr => ∃ (m : Nat) (c v : Int), nn = .int .i64 m ∧ bb = .int .i64 c ∧ r = .int .i64 v ∧ 0 ≤ c ∧ c < 8380417 ∧ 0 ≤ v ∧ v < 8380417 ∧ m ≤ 8380417 ∧ Hid (Cg 8380417 (v * c ^ m) X) ∧ wr = w) (fun _ nn _ _ => (intOf nn).toNat)
  case atStart => exact ⟨n, b, 1, rfl, rfl, rfl, h0, h1, by omega, by omega, hn, HS, rfl⟩
  case round =>
    clear HS HX h0 h1 hn
    obtain ⟨m, c, v, rfl, rfl, rfl, c0, c1, v0, v1, hm, HV, rfl⟩ := hrel
    have m0 : (0 : Int) ≤ (m : Int) := Int.natCast_nonneg m
    have m1 : (m : Int) ≤ 8380417 := by omega
    by_cases hlt : 0 < m
    · have m2 : (0 : Int) < (m : Int) := by omega
      obtain ⟨e1, e2, e3⟩ := mulmod_val v c 8380417 v0 v1 c0 c1 (by omega)
      obtain ⟨f1, f2, f3⟩ := mulmod_val c c 8380417 c0 c1 c0 c1 (by omega)
      have x0 : 0 ≤ c * c % 8380417 ∧ c * c % 8380417 < 8380417 := ⟨Int.emod_nonneg _ (by omega), Int.emod_lt_of_pos _ (by omega)⟩
      have x1 : 0 ≤ v * c % 8380417 ∧ v * c % 8380417 < 8380417 := ⟨Int.emod_nonneg _ (by omega), Int.emod_lt_of_pos _ (by omega)⟩
      have t1 : (m : Int).tmod 2 = ((m % 2 : Nat) : Int) := by rw [Int.tmod_eq_emod_of_nonneg (by omega)]; omega
      have t2 : (m : Int).tdiv 2 = ((m / 2 : Nat) : Int) := by rw [Int.tdiv_eq_ediv_of_nonneg (by omega)]; omega
      have HF := hidz (sq_facts 8380417 v c _ m X HV.out rfl)
      by_cases ho : m % 2 = 1
      · rw [ho] at t1
        go_wp2
        refine ⟨⟨m / 2, _, _, rfl, rfl, rfl, x0.1, x0.2, x1.1, x1.2, by omega, ?_, trivial⟩, by simp [intOf]; omega⟩
        have h := HF.out
        rw [if_pos ho] at h
        exact Cg.trans (((cg_mod _ _).mul (Cg.refl _ _)).trans (.of_eq (by grind))) h
      · have ho2 : m % 2 = 0 := by omega
        rw [ho2] at t1
        go_wp2
        refine ⟨⟨m / 2, _, _, rfl, rfl, rfl, x0.1, x0.2, v0, v1, by omega, ?_, trivial⟩, by simp [intOf]; omega⟩
        have h := HF.out
        rw [if_neg ho, Int.mul_one] at h
        exact h
    · obtain rfl : m = 0 := by omega
      go_wp2
      go_ret
      have hc : Cg 8380417 v (X % 8380417) := ((Cg.of_eq (by simp)).trans HV.out).trans (cg_mod _ _).symm
      exact ⟨by rw [← hc.eq v0 v1 (Int.emod_nonneg _ (by omega)) (Int.emod_lt_of_pos _ (by omega))]; rfl, rfl⟩
set_option maxHeartbeats 2000000 in
set_option maxRecDepth 20000 in
theorem rootOf_any (n : Nat) (hn : n < 256) (w : World) :
    Calls Tryz.prog 195 #[.int .i64 n] w fun e w' => e = .returned (.int .i64 (yG n)) ∧ w' = w := by
  have n0 : (0 : Int) ≤ (n : Int) := Int.natCast_nonneg n
  have n1 : (n : Int) < 256 := by omega
  go_enter Tryz.func195, Tryz.ntmps195
  go_wp2
  go_loopw [3, 4] (fun r i wr => ∃ (k v : Nat), k ≤ 8 ∧ i = .int .i64 k ∧ r = .int .i64 v ∧ Hid (v = rvk n k) ∧ wr = w) (fun _ i _ => 8 - (intOf i).toNat)
  case atStart => exact ⟨0, 0, by omega, rfl, rfl, (by show 0 = rvk n 0; rfl), rfl⟩
  case round =>
    obtain ⟨k, v, hk, rfl, rfl, HV, rfl⟩ := hrel
    have v1 : v < 256 := by
      have h := rvk_lt n k
      have h2 : 2 ^ k ≤ 2 ^ 8 := Nat.pow_le_pow_right (by omega) (by omega)
      have := HV.out
      omega
    by_cases hlt : k < 8
    · have k0 : (0 : Int) ≤ (k : Int) := Int.natCast_nonneg k
      have k1 : (k : Int) < 8 := by omega
      have e1 := hidz (bit_at n k (by omega))
      go_wp2
      refine ⟨⟨k + 1, 2 * v + n / 2 ^ k % 2, by omega, by go_num, ?_, ?_, trivial⟩, by simp [intOf]; omega⟩
      · rw [e1.out, wrap_id _ (by omega) (by omega)]; rfl
      · show _ = rvk n (k + 1)
        rw [rvk, HV.out]
    · have hk6 : k = 8 := by omega
      subst hk6
      have v0 : (0 : Int) ≤ (v : Int) := Int.natCast_nonneg v
      have e2 : IntKind.i64.wrap (2 * (v : Int) + 1) = 2 * (v : Int) + 1 := by rw [IntKind.wrap_i64] <;> omega
      have HC := hidz (powerGreat_any 1753 (2 * v + 1) (by omega) (by omega) (by omega) wr)
      rw [show ((2 * v + 1 : Nat) : Int) = 2 * (v : Int) + 1 by push_cast; rfl] at HC
      have HR : Hid ((1753 : Int) ^ (2 * v + 1) % 8380417 = yG n) := by
        show _ = _
        rw [yG_doc n hn, ← rvk8 n hn, ← HV.out]
        exact (cast_pow 1753 (2 * v + 1) 8380417).symm
      go_wp2_with fail
      refine HC.out.mono ?_
      rintro e w1 ⟨rfl, rfl⟩
      rw [HR.out]
      go_wp2
      go_ret
      exact ⟨rfl, rfl⟩
/-- The cells of an array of 128 numbers. -/
def rtL (f : Nat → Int) : Array Value := ((List.range 128).map fun i => Value.int .i64 (f i)).toArray
end Go.Proofs.YtikcbdpijjafjaaGreatDoor.Z
