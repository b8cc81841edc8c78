import Derived.Test.YtkijpphmiogbbaaGreatDoorK35
import Derived.Test.YtkijpphmiogbbaaGreatDoorK39
import Derived.Laws.BitsAllLaws
namespace Go.Proofs.YtkijpphmiogbbaaGreatDoor.Z
open Go.RowKit
attribute [local go_sem ↓] Go.wp_at_zero Go.wp_at_succ
attribute [local go_sem ↓] ld_hide st_hide bs_hide ldA_hide stA_hide

theorem eb_same (S K b : Nat) (hS : S < 2 ^ K) (hb : b < 2) : (S + 2 ^ K * b) / 2 ^ (8 * (K / 8)) % 256 = S / 2 ^ (8 * (K / 8)) % 256 + 2 ^ (K % 8) * b ∧ S / 2 ^ (8 * (K / 8)) % 256 < 2 ^ (K % 8) := by
  have e : 2 ^ K = 2 ^ (8 * (K / 8)) * 2 ^ (K % 8) := by rw [← Nat.pow_add]; congr 1; omega
  have h1 : S / 2 ^ (8 * (K / 8)) < 2 ^ (K % 8) := Nat.div_lt_of_lt_mul (by rw [← e]; exact hS)
  have h2 : 2 ^ (K % 8) ≤ 2 ^ 7 := Nat.pow_le_pow_right (by omega) (by omega)
  have h3 : 2 ^ (K % 8) * b ≤ 2 ^ (K % 8) * 1 := Nat.mul_le_mul_left _ (by omega)
  rw [e, Nat.mul_assoc, Nat.add_mul_div_left _ _ (Nat.two_pow_pos _)]
  rw [Nat.mod_eq_of_lt (show S / 2 ^ (8 * (K / 8)) < 256 by omega), Nat.mod_eq_of_lt (by omega)]
  exact ⟨rfl, h1⟩
theorem eb_other (S K b q : Nat) (hS : S < 2 ^ K) (hb : b < 2) (hq : q ≠ K / 8) : (S + 2 ^ K * b) / 2 ^ (8 * q) % 256 = S / 2 ^ (8 * q) % 256 := by
  rcases Nat.lt_or_ge q (K / 8) with h | h
  · have e : 2 ^ K = 2 ^ (8 * q) * (2 ^ 8 * 2 ^ (K - 8 * q - 8)) := by rw [← Nat.pow_add, ← Nat.pow_add]; congr 1; omega
    rw [e, Nat.mul_assoc, Nat.add_mul_div_left _ _ (Nat.two_pow_pos _), Nat.mul_assoc]
    exact Nat.add_mul_mod_self_left _ _ _
  · have e : 2 ^ (K + 1) ≤ 2 ^ (8 * q) := Nat.pow_le_pow_right (by omega) (by omega)
    rw [Nat.pow_succ] at e
    have h3 : 2 ^ K * b ≤ 2 ^ K * 1 := Nat.mul_le_mul_left _ (by omega)
    rw [Nat.div_eq_of_lt (show S + 2 ^ K * b < 2 ^ (8 * q) by omega), Nat.div_eq_of_lt (show S < 2 ^ (8 * q) by omega)]
/-- The first K bits of the coefficients as a number. -/
def encN (a : Nat → Nat) (d K : Nat) : Nat := num 2 (fun K => a (K / d) / 2 ^ (K % d) % 2) K
theorem encN_lt (a : Nat → Nat) (d K : Nat) : encN a d K < 2 ^ K := num_lt 2 _ K (fun _ _ => Nat.mod_lt _ (by omega))
def encB (a : Nat → Nat) (d K q : Nat) : Int := ((encN a d K / 2 ^ (8 * q) % 256 : Nat) : Int)
/-- The document's packed text. -/
def encT (a : Nat → Nat) (d : Nat) : ByteArray := ((List.range (32 * d)).map (encB a d (256 * d))).foldl (fun r n => r.push (UInt8.ofNat n.toNat)) ByteArray.empty
theorem and_i64 (v : Nat) (hv : v < 9223372036854775808) : bits BinOp.and IntKind.i64 (v : Int) 1 = ((v % 2 : Nat) : Int) := by
  have e63 : (2 : Int) ^ 63 = 9223372036854775808 := by decide
  have f63 : (2 : Nat) ^ 63 = 9223372036854775808 := by decide
  have h := (bits_nat .i64 63 (by decide) (fun n h0 h1 => by rw [e63] at h1; rw [IntKind.wrap_i64]; omega) v 1 (by rw [f63]; omega) (by rw [f63]; omega)).1
  rw [Nat.and_one_is_mod] at h
  exact h
theorem enc_or (A t R B : Nat) (hA : A < 4294967296) (hB : B < 2 ^ R) (hR : R < 8) :
    bits BinOp.or IntKind.u8 (B : Int) (bits BinOp.and IntKind.i64 ((A : Int) / 2 ^ t) 1 % 256 * 2 ^ R % 256) = ((B + 2 ^ R * (A / 2 ^ t % 2) : Nat) : Int) := by
  have e : ((A : Int) / 2 ^ t) = ((A / 2 ^ t : Nat) : Int) := by push_cast; rfl
  have h2 : 2 ^ R ≤ 2 ^ 7 := Nat.pow_le_pow_right (by omega) (by omega)
  rw [e, and_i64 _ (Nat.lt_of_le_of_lt (Nat.div_le_self _ _) (by omega))]
  have h3 : A / 2 ^ t % 2 < 2 := Nat.mod_lt _ (by omega)
  generalize A / 2 ^ t % 2 = b at *
  have h4 : 2 ^ R * b ≤ 2 ^ R * 1 := Nat.mul_le_mul_left _ (by omega)
  have e2 : (b : Int) % 256 * 2 ^ R % 256 = ((2 ^ R * b : Nat) : Int) := by
    rw [show (b : Int) % 256 = (b : Int) by omega, show (b : Int) * 2 ^ R = ((2 ^ R * b : Nat) : Int) by rw [Nat.mul_comm]; push_cast; rfl]
    omega
  rw [e2, u8_or_nat B _ (by omega) (by omega), Nat.or_comm, ← Nat.two_pow_add_eq_or_of_lt hB]
  congr 1
  omega
theorem enc_step (a : Nat → Nat) (d K q : Nat) (b : Nat) (hb : b = a (K / d) / 2 ^ (K % d) % 2) (B : Nat) (hB : (B : Int) = encB a d K (K / 8)) : upd (encB a d K) (K / 8) ((B + 2 ^ (K % 8) * b : Nat) : Int) q = encB a d (K + 1) q := by
  have e : encN a d (K + 1) = encN a d K + 2 ^ K * b := by rw [hb]; rfl
  have hb2 : b < 2 := by rw [hb]; exact Nat.mod_lt _ (by omega)
  have hB2 : B = encN a d K / 2 ^ (8 * (K / 8)) % 256 := by unfold encB at hB; omega
  unfold upd
  by_cases h : q = K / 8
  · rw [if_pos h, h]
    unfold encB
    rw [e, (eb_same _ K b (encN_lt a d K) hb2).1, hB2]
  · rw [if_neg h]
    unfold encB
    rw [e, eb_other _ K b q (encN_lt a d K) hb2 h]
theorem conv_row (w : World) (g n : Nat) (f : Nat → Int) (h : RowB w g n f) : (convert 41 9 (.slice (some ⟨g, 0, none⟩) n n)).run Tryz.prog w = .ok (.string (((List.range n).map f).foldl (fun r n => r.push (UInt8.ofNat n.toNat)) ByteArray.empty)) w := by
  rw [run_convert_bytes_string w 41 9 5 (some ⟨g, 0, none⟩) n n (by kernel_rfl) (by kernel_rfl) (by kernel_rfl)]
  refine run_bytesToString w ⟨g, 0, none⟩ n n ((List.range n).map f) ?_
  have hl := run_loadCells_list (P := Tryz.prog) w ⟨g, 0, none⟩ (((List.range n).map f).map (Value.int .u8)) (fun j v hv => by
    have hadd : (⟨g, 0, none⟩ : Addr).add j = ⟨g, j, none⟩ := by unfold Addr.add; split <;> simp_all
    rw [hadd]
    rw [List.map_map, List.getElem?_map] at hv
    rcases Nat.lt_or_ge j n with hj | hj
    · rw [List.getElem?_range hj] at hv
      have e : Value.int .u8 (f j) = v := by simpa using hv
      rw [← e]; exact (h j hj).1
    · rw [List.getElem?_eq_none (by simpa using hj)] at hv
      cases hv)
  simpa using hl
set_option maxHeartbeats 4000000 in
set_option maxRecDepth 20000 in
theorem renc_any (d : Nat) (hd0 : 0 < d) (hd : d ≤ 32) (a : Nat → Nat) (ha : ∀ i, i < 256 → a i < 4294967296) (w : World) :
    Calls Tryz.prog 61 #[.int .i64 d, .agg (polyA .i64 (fun i => (a i : Int)))] w fun e w' => e = .returned (.string (encT a d)) ∧ w.grownBy w' none := by
  have n1 := new_alloc .i64 w (fun i => (a i : Int)) 43
  generalize hw1 : w.alloc (.cells (polyA .i64 (fun i => (a i : Int))) 43) = w1 at n1
  have s1 := n1.s
  have mk := run_mk (32 * d) (by omega) w1
  have z1 := zer_row (32 * d) w1
  have g3 : w.grownBy (w1.alloc (.cells (zer (32 * d)) 5)) none := grownBy_trans n1.g (World.grownBy_alloc _ _ _)
  have r1 := n1.r.new (World.grownBy_alloc w1 (.cells (zer (32 * d)) 5) none)
  rw [s1] at z1 mk
  have d0 : (0 : Int) ≤ (d : Int) := Int.natCast_nonneg d
  have d1 : (d : Int) ≤ 32 := by omega
  have d2 : ((32 * d : Nat) : Int) = 32 * (d : Int) := by push_cast; rfl
  rw [d2] at mk
  have HA : Hid (∀ i, i < 256 → a i < 4294967296) := ha
  clear ha d2
  go_enter Tryz.func61, Tryz.ntmps61
  go_wp2
  generalize w1.alloc (.cells (zer (32 * d)) 5) = W3 at *
  clear n1 s1 mk
  go_loopw [6] (fun i wr => ∃ k : Nat, k ≤ 256 ∧ i = .int .i64 k ∧ w.grownBy wr none ∧ PRow .i64 wr w.heap.size 0 (fun i => (a i : Int)) ∧ RowB wr (w.heap.size + 1) (32 * d) (encB a d (k * d))) (fun i _ => 256 - (intOf i).toNat)
  case atStart => exact ⟨0, by omega, rfl, g3, r1, z1.ext (fun j _ => by simp [encB, encN, num])⟩
  case round =>
    clear g3 r1 z1
    obtain ⟨k, hk, rfl, hg, h1, h2⟩ := hrel
    by_cases hlt : k < 256
    · have k0 : (0 : Int) ≤ (k : Int) := Int.natCast_nonneg k
      have k1 : (k : Int) < 256 := by omega
      go_wp2
      go_loopw [7] (fun j wr => ∃ t : Nat, t ≤ d ∧ j = .int .i64 t ∧ w.grownBy wr none ∧ PRow .i64 wr w.heap.size 0 (fun i => (a i : Int)) ∧ RowB wr (w.heap.size + 1) (32 * d) (encB a d (k * d + t))) (fun j _ => d - (intOf j).toNat)
      case atStart => exact ⟨0, by omega, rfl, hg, h1, h2⟩
      case round =>
        clear hg h1 h2
        obtain ⟨t, ht, rfl, hg, h1, h2⟩ := hrel
        by_cases hlt2 : t < d
        · have t0 : (0 : Int) ≤ (t : Int) := Int.natCast_nonneg t
          have t1 : (t : Int) < d := by omega
          have hkd : k * d + t < 256 * d := by
            have : (k + 1) * d ≤ 256 * d := Nat.mul_le_mul_right d (by omega)
            rw [Nat.add_mul] at this; omega
          have HB : Hid (a ((k * d + t) / d) / 2 ^ ((k * d + t) % d) % 2 = a k / 2 ^ t % 2) := by
            show _ = _
            rw [Nat.mul_comm, Nat.mul_add_div hd0, Nat.mul_add_mod, Nat.div_eq_of_lt hlt2, Nat.mod_eq_of_lt hlt2, Nat.add_zero]
          obtain ⟨K, HK⟩ : ∃ K, Hid (K = k * d + t) := ⟨_, rfl⟩
          rw [← HK.out] at hkd h2 HB
          have m1 : IntKind.i64.wrap ((k : Int) * d) = (k : Int) * d := by
            have h0 : (0 : Int) ≤ (k : Int) * d := Int.mul_nonneg k0 d0
            have : (k : Int) * d ≤ 256 * 32 := Int.mul_le_mul (by omega) d1 d0 (by omega)
            rw [IntKind.wrap_i64] <;> omega
          have m2 : (k : Int) * d + t = (K : Int) := by rw [HK.out]; push_cast; rfl
          have m3 : IntKind.i64.wrap (K : Int) = (K : Int) := by rw [IntKind.wrap_i64] <;> omega
          have K0 : (0 : Int) ≤ (K : Int) := Int.natCast_nonneg K
          have K1 : (K : Int) < 8192 := by omega
          have HQ : K / 8 < 32 * d := by omega
          have x1 := h2 (K / 8) HQ
          obtain ⟨Q, hQ⟩ : ∃ Q, Q = K / 8 := ⟨_, rfl⟩
          obtain ⟨R, hR⟩ : ∃ R, R = K % 8 := ⟨_, rfl⟩
          have R1 : R < 8 := by omega
          have m4 : (K : Int) / 8 = (Q : Int) := by omega
          have m5 : (K : Int) % 8 = (R : Int) := by omega
          have m6 : (K : Int).tdiv 8 = (Q : Int) := by rw [Int.tdiv_eq_ediv_of_nonneg (by omega)]; omega
          have m7 : (K : Int).tmod 8 = (R : Int) := by rw [Int.tmod_eq_emod_of_nonneg (by omega)]; omega
          rw [← hQ] at HQ x1
          have Q0 : (0 : Int) ≤ (Q : Int) := Int.natCast_nonneg Q
          have Q1 : (Q : Int) < 32 * (d : Int) := by omega
          have Q2 : IntKind.i64.wrap (Q : Int) = (Q : Int) := by rw [IntKind.wrap_i64] <;> omega
          have R0 : (0 : Int) ≤ (R : Int) := Int.natCast_nonneg R
          have R2 : (R : Int) < 8 := by omega
          have c1 := (h1.at0 k hlt).1
          obtain ⟨c2, c3⟩ := x1
          have a1 := HA.out k hlt
          obtain ⟨A, HAa⟩ : ∃ A, Hid (A = a k) := ⟨_, rfl⟩
          rw [← HAa.out] at c1 a1
          have HQe := hidz hQ
          have HRe := hidz hR
          obtain ⟨B, HBb⟩ : ∃ B : Nat, Hid ((B : Int) = encB a d K Q) := ⟨_, rfl⟩
          rw [← HBb.out] at c2
          clear hkd hQ hR
          have hB8 : B < 2 ^ R := by
            have h := (eb_same (encN a d K) K 0 (encN_lt a d K) (by omega)).2
            have h5 := HBb.out
            unfold encB at h5
            rw [HRe.out]
            rw [HQe.out] at h5
            omega
          have HO := hidz (enc_or A t R B a1 hB8 R1)
          have HN : Hid (∀ q, upd (encB a d K) Q ((B + 2 ^ R * (A / 2 ^ t % 2) : Nat) : Int) q = encB a d (K + 1) q) := by
            intro q
            have h5 := HBb.out
            rw [HQe.out] at h5
            rw [HQe.out, HRe.out, HAa.out]
            exact enc_step a d K q _ HB.out.symm B h5
          clear hB8
          generalize B + 2 ^ R * (A / 2 ^ t % 2) = V at HO HN
          go_wp2
          go_region
          rw [HO.out]
          have r4 : RowB _ _ _ _ := ((h2.set HQ (V : Int)).ext (fun q _ => HN.out q)).drew
          have g4 := grown_drew (grown_setNew hg (p := ⟨w.heap.size + 1, Q, none⟩) (by show w.heap.size ≤ w.heap.size + 1; omega) (.int .u8 (V : Int)))
          have o4 := (h1.set_other (p := ⟨w.heap.size + 1, Q, none⟩) (by show w.heap.size + 1 ≠ w.heap.size; omega) (.int .u8 (V : Int))).drew
          generalize (wr.setCell ⟨w.heap.size + 1, Q, none⟩ (.int .u8 (V : Int))).drew = W4 at *
          rw [HK.out] at r4
          clear c1 c2 c3 h1 h2 hg m1 m2 m3 m4 m5 m6 m7 HO HN
          go_wp2
          exact ⟨⟨t + 1, by omega, by go_num, g4, o4, r4⟩, by simp [intOf]; omega⟩
        · obtain rfl : t = d := by omega
          go_wp2
          exact ⟨⟨k + 1, by omega, by go_num, hg, h1, (by rw [Nat.add_mul, Nat.one_mul]; exact h2)⟩, by simp [intOf]; omega⟩
    · have hk6 : k = 256 := by omega
      subst hk6
      have cv := conv_row wr (w.heap.size + 1) (32 * d) (encB a d (256 * d)) h2
      clear h1 h2
      go_wp2
      go_ret
      exact ⟨rfl, hg⟩
end Go.Proofs.YtkijpphmiogbbaaGreatDoor.Z
