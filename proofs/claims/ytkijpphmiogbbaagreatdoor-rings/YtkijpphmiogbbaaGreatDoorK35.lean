import Derived.Test.YtkijpphmiogbbaaGreatDoorK08
import Derived.Laws.BitsLemmas
import Derived.Test.YtkijpphmiogbbaaGreatDoorProg
import Derived.Test.YtkijpphmiogbbaaGreatDoorK01
import Derived.WalkKit
import Derived.WalkLawsBesides
import Derived.WalkSpells
import Derived.BigQuiet
import Derived.Deep.QuietTactic
import Derived.Deep.RegionHeld3
import Derived.Deep.DrawnRows
import Derived.BigRegion
import Derived.Deep.RegionWith
namespace Go.Proofs.YtkijpphmiogbbaaGreatDoor
/-- The bits of T from lo to hi. -/
def win (T lo hi : Nat) : Nat := T % 2 ^ hi / 2 ^ lo
theorem win_none (T n : Nat) : win T n n = 0 := Nat.div_eq_of_lt (Nat.mod_lt _ (Nat.two_pow_pos n))
theorem win_lt (T lo hi : Nat) (h : lo ≤ hi) : win T lo hi < 2 ^ (hi - lo) := by
  unfold win
  rw [Nat.div_lt_iff_lt_mul (Nat.two_pow_pos lo), ← Nat.pow_add, show hi - lo + lo = hi by omega]
  exact Nat.mod_lt _ (Nat.two_pow_pos hi)
theorem win_add (T lo hi k : Nat) (h : lo ≤ hi) : win T lo hi + T / 2 ^ hi % 2 ^ k * 2 ^ (hi - lo) = win T lo (hi + k) := by
  unfold win
  have e : T % 2 ^ (hi + k) = T % 2 ^ hi + 2 ^ lo * (T / 2 ^ hi % 2 ^ k * 2 ^ (hi - lo)) := by
    rw [Nat.pow_add, Nat.mod_mul]
    have : 2 ^ hi = 2 ^ lo * 2 ^ (hi - lo) := by rw [← Nat.pow_add]; congr 1; omega
    conv => lhs; arg 2; rw [this]
    rw [Nat.mul_assoc, Nat.mul_comm (2 ^ (hi - lo)), ← this]
  rw [e, Nat.add_mul_div_left _ _ (Nat.two_pow_pos lo)]
theorem win_low (T lo hi k : Nat) (h : lo + k ≤ hi) : win T lo hi % 2 ^ k = T / 2 ^ lo % 2 ^ k := by
  unfold win
  have e : hi = lo + (k + (hi - lo - k)) := by omega
  rw [e, Nat.pow_add, Nat.mod_mul_right_div_self, Nat.pow_add]
  exact Nat.mod_mul_right_mod _ _ _
theorem win_shift (T lo hi k : Nat) : win T lo hi / 2 ^ k = win T (lo + k) hi := by
  unfold win; rw [Nat.div_div_eq_div_mul, ← Nat.pow_add]

/-- n digits as a number. -/
def num (B : Nat) (a : Nat → Nat) : Nat → Nat
  | 0 => 0
  | n + 1 => num B a n + B ^ n * a n
theorem num_lt (B : Nat) (a : Nat → Nat) : ∀ n, (∀ i, i < n → a i < B) → num B a n < B ^ n
  | 0, _ => by simp [num]
  | n + 1, h => by
    have h1 := num_lt B a n (fun i hi => h i (by omega))
    have h2 := h n (by omega)
    unfold num
    rw [Nat.pow_succ]
    calc num B a n + B ^ n * a n < B ^ n + B ^ n * a n := by omega
      _ = B ^ n * (a n + 1) := by rw [Nat.mul_add]; omega
      _ ≤ B ^ n * B := Nat.mul_le_mul_left _ h2
theorem num_digit (B : Nat) (a : Nat → Nat) : ∀ n i, (∀ i, i < n → a i < B) → i < n → num B a n / B ^ i % B = a i
  | 0, i, _, hi => by omega
  | n + 1, i, h, hi => by
    have h1 := num_lt B a n (fun i hi => h i (by omega))
    have hB : 0 < B := Nat.lt_of_le_of_lt (Nat.zero_le _) (h 0 (by omega))
    have hP : ∀ m, 0 < B ^ m := fun m => Nat.pow_pos hB
    unfold num
    by_cases e : i = n
    · subst e
      rw [Nat.add_mul_div_left _ _ (hP i), Nat.div_eq_of_lt h1, Nat.zero_add, Nat.mod_eq_of_lt (h i (by omega))]
    · have e2 : B ^ n = B ^ i * (B * B ^ (n - i - 1)) := by rw [← Nat.pow_succ', ← Nat.pow_add]; congr 1; omega
      rw [e2, Nat.mul_assoc, Nat.add_mul_div_left _ _ (hP i), Nat.mul_assoc, Nat.add_mul_mod_self_left]
      exact num_digit B a n i (fun i hi => h i (by omega)) (by omega)
theorem num_of (B S : Nat) : ∀ n, num B (fun i => S / B ^ i % B) n = S % B ^ n
  | 0 => by simp [num, Nat.mod_one]
  | n + 1 => by rw [num, num_of B S n, Nat.mod_pow_succ]
theorem num_ext (B : Nat) (a b : Nat → Nat) : ∀ n, (∀ i, i < n → a i = b i) → num B a n = num B b n
  | 0, _ => rfl
  | n + 1, h => by rw [num, num, num_ext B a b n (fun i hi => h i (by omega)), h n (by omega)]
end Go.Proofs.YtkijpphmiogbbaaGreatDoor

namespace Go.Proofs.YtkijpphmiogbbaaGreatDoor.Z
open Go.RowKit
attribute [local go_sem ↓] Go.wp_at_zero Go.wp_at_succ
attribute [local go_sem ↓] ld_hide st_hide bs_hide ldA_hide stA_hide

/-- The k-th bit of a text. -/
def tbit (s : ByteArray) (k : Nat) : Nat := (s.data.getD (k / 8) 0).toNat / 2 ^ (k % 8) % 2
def unp (s : ByteArray) (d i j : Nat) : Nat := num 2 (fun j => tbit s (i * d + j)) j
theorem unp_lt (s : ByteArray) (d i j : Nat) : unp s d i j < 2 ^ j := num_lt 2 _ j (fun _ _ => Nat.mod_lt _ (by omega))
theorem or_add64 (h b n : Nat) (hh : h < 2 ^ n) (hb : b * 2 ^ n + h < 9223372036854775808) : bits BinOp.or IntKind.i64 (h : Int) ((b * 2 ^ n : Nat) : Int) = ((h + b * 2 ^ n : Nat) : Int) := by
  have e63 : (2 : Int) ^ 63 = 9223372036854775808 := by decide
  have f63 : (2 : Nat) ^ 63 = 9223372036854775808 := by decide
  rw [(bits_nat .i64 63 (by decide) (fun n h0 h1 => by rw [e63] at h1; rw [IntKind.wrap_i64]; omega) h (b * 2 ^ n) (by rw [f63]; omega) (by rw [f63]; omega)).2]
  congr 1
  rw [Nat.or_comm, Nat.mul_comm b, ← Nat.two_pow_add_eq_or_of_lt hh]
  omega
theorem and_u8 (v : Nat) (hv : v < 256) : bits BinOp.and IntKind.u8 (v : Int) 1 = ((v % 2 : Nat) : Int) := by
  have : ∀ v : Fin 256, bits BinOp.and IntKind.u8 ((v.val : Nat) : Int) 1 = ((v.val % 2 : Nat) : Int) := by decide +kernel
  exact this ⟨v, hv⟩
theorem or_val (U V R t : Nat) (hU : U < 2 ^ t) (hV : V < 256) (ht : t < 32) :
    bits BinOp.or IntKind.i64 (U : Int) (wrap64 (wrap64 (bits BinOp.and IntKind.u8 ((V : Int) / 2 ^ R) 1) * 2 ^ t)) = ((U + 2 ^ t * (V / 2 ^ R % 2) : Nat) : Int) := by
  have e : ((V : Int) / 2 ^ R) = ((V / 2 ^ R : Nat) : Int) := by push_cast; rfl
  have h2 : 2 ^ t ≤ 2 ^ 31 := Nat.pow_le_pow_right (by omega) (by omega)
  rw [e, and_u8 _ (Nat.lt_of_le_of_lt (Nat.div_le_self _ _) hV)]
  have h3 : V / 2 ^ R % 2 < 2 := Nat.mod_lt _ (by omega)
  generalize V / 2 ^ R % 2 = b at *
  have e2 : (b : Int) * 2 ^ t = ((b * 2 ^ t : Nat) : Int) := by push_cast; rfl
  have h4 : b * 2 ^ t ≤ 1 * 2 ^ t := Nat.mul_le_mul_right _ (by omega)
  rw [wrap_id (b : Int) (by omega) (by omega), e2, wrap_id _ (by omega) (by omega), or_add64 U b t hU (by omega), Nat.mul_comm]
set_option maxHeartbeats 4000000 in
set_option maxRecDepth 20000 in
theorem runp_any (d : Nat) (hd : d ≤ 32) (s : ByteArray) (hs : s.size = 32 * d) (w : World) :
    Calls Tryz.prog 63 #[.int .i64 d, .string s] w fun e w' => e = .returned (.agg (polyA .i64 (fun i => (unp s d i d : Int)))) ∧ w.grownBy w' none := by
  have n1 := new_alloc .i64 w (fun _ => 0) 43
  rw [← Tryz.zY] at n1
  generalize hw1 : w.alloc (.cells Tryz.zeroCells43 43) = w1 at n1
  have n2 := new_alloc .i64 w1 (fun _ => 0) 43
  rw [← Tryz.zY] at n2
  have s1 := n1.s
  have g3 : w.grownBy (w1.alloc (.cells Tryz.zeroCells43 43)) none := grownBy_trans n1.g n2.g
  have r1 := n1.r.new n2.g
  have r2 := n2.r
  rw [s1] at r2
  have d0 : (0 : Int) ≤ (d : Int) := Int.natCast_nonneg d
  have d1 : (d : Int) ≤ 32 := by omega
  have Hs : Hid (s.size = 32 * d) := hs
  clear hs
  go_enter Tryz.func63, Tryz.ntmps63
  go_wp2
  generalize w1.alloc (.cells Tryz.zeroCells43 43) = W3 at *
  clear n1 n2 s1
  go_loopw [6] (fun i wr => ∃ k : Nat, k ≤ 256 ∧ i = .int .i64 k ∧ w.grownBy wr none ∧ PRow .i64 wr w.heap.size 0 (fun _ => 0) ∧ PRow .i64 wr (w.heap.size + 1) 0 (fun i => if i < k then (unp s d i d : Int) else 0)) (fun i _ => 256 - (intOf i).toNat)
  case atStart => exact ⟨0, by omega, rfl, g3, r1, r2.ext (fun j _ => by simp)⟩
  case round =>
    clear g3 r1 r2
    obtain ⟨k, hk, rfl, hg, h1, h2⟩ := hrel
    by_cases hlt : k < 256
    · have k0 : (0 : Int) ≤ (k : Int) := Int.natCast_nonneg k
      have k1 : (k : Int) < 256 := by omega
      have h20 : PRow .i64 wr (w.heap.size + 1) 0 (fun i => if i < k then (unp s d i d : Int) else if i = k then (unp s d k 0 : Int) else 0) := h2.ext (fun i _ => by
        by_cases e : i < k
        · rw [if_pos e, if_pos e]
        · rw [if_neg e, if_neg e]; by_cases e2 : i = k
          · rw [if_pos e2]; rfl
          · rw [if_neg e2])
      clear h2
      go_wp2
      go_loopw [7] (fun j wr => ∃ t : Nat, t ≤ d ∧ j = .int .i64 t ∧ w.grownBy wr none ∧ PRow .i64 wr w.heap.size 0 (fun _ => 0) ∧ PRow .i64 wr (w.heap.size + 1) 0 (fun i => if i < k then (unp s d i d : Int) else if i = k then (unp s d k t : Int) else 0)) (fun j _ => d - (intOf j).toNat)
      case atStart => exact ⟨0, by omega, rfl, hg, h1, h20⟩
      case round =>
        clear hg h1 h20
        obtain ⟨t, ht, rfl, hg, h1, h2⟩ := hrel
        by_cases hlt2 : t < d
        · have t0 : (0 : Int) ≤ (t : Int) := Int.natCast_nonneg t
          have t1 : (t : Int) < d := by omega
          have c1 := (h2.at0 k hlt).1
          have c2 := (h2.at0 k hlt).2
          rw [if_neg (Nat.lt_irrefl k), if_pos rfl] at c1
          have hkd : k * d + t < 256 * d := by
            have : (k + 1) * d ≤ 256 * d := Nat.mul_le_mul_right d (by omega)
            rw [Nat.add_mul] at this; omega
          obtain ⟨K, HK⟩ : ∃ K, Hid (K = k * d + t) := ⟨_, rfl⟩
          rw [← HK.out] at hkd
          have m1 : IntKind.i64.wrap ((k : Int) * d) = (k : Int) * d := by
            have h0 : (0 : Int) ≤ (k : Int) * d := Int.mul_nonneg k0 d0
            have : (k : Int) * d ≤ 256 * 32 := Int.mul_le_mul (by omega) d1 d0 (by omega)
            rw [IntKind.wrap_i64] <;> omega
          have m2 : (k : Int) * d + t = (K : Int) := by rw [HK.out]; push_cast; rfl
          have m3 : IntKind.i64.wrap (K : Int) = (K : Int) := by rw [IntKind.wrap_i64] <;> omega
          have K0 : (0 : Int) ≤ (K : Int) := Int.natCast_nonneg K
          have K1 : (K : Int) < 8192 := by omega
          have HQ : K / 8 < s.size := by rw [Hs.out]; omega
          obtain ⟨Q, hQ⟩ : ∃ Q, Q = K / 8 := ⟨_, rfl⟩
          obtain ⟨R, hR⟩ : ∃ R, R = K % 8 := ⟨_, rfl⟩
          rw [← hQ] at HQ
          have R1 : R < 8 := by omega
          have m4 : (K : Int) / 8 = (Q : Int) := by omega
          have m5 : (K : Int) % 8 = (R : Int) := by omega
          have m6 : (K : Int).tdiv 8 = (Q : Int) := by rw [Int.tdiv_eq_ediv_of_nonneg (by omega)]; omega
          have m7 : (K : Int).tmod 8 = (R : Int) := by rw [Int.tmod_eq_emod_of_nonneg (by omega)]; omega
          have Q0 : (0 : Int) ≤ (Q : Int) := Int.natCast_nonneg Q
          have Q1 : (Q : Int) < (s.size : Int) := by omega
          have Q2 : IntKind.i64.wrap (Q : Int) = (Q : Int) := by rw [IntKind.wrap_i64] <;> omega
          have R0 : (0 : Int) ≤ (R : Int) := Int.natCast_nonneg R
          have R2 : (R : Int) < 8 := by omega
          have HE : Hid (tbit s (k * d + t) = s[Q].toNat / 2 ^ R % 2) := by
            show _ = _
            unfold tbit
            rw [← HK.out, ← hQ, ← hR]
            congr 2
            rw [Array.getD_eq_getD_getElem?, Array.getElem?_eq_getElem (by simpa using HQ)]
            rfl
          obtain ⟨V, HVv⟩ : ∃ V, Hid (V = s[Q].toNat) := ⟨s[Q].toNat, (rfl : s[Q].toNat = s[Q].toNat)⟩
          have v1 : V < 256 := by rw [HVv.out]; exact s[Q].toNat_lt
          clear hQ hR
          have HU : Hid (unp s d k (t + 1) = unp s d k t + 2 ^ t * (V / 2 ^ R % 2)) := by
            show _ = _
            rw [HVv.out, ← HE.out]; rfl
          have HO := hidz (or_val (unp s d k t) V R t (unp_lt s d k t) v1 (by omega))
          rw [← HU.out, HVv.out] at HO
          clear HU
          obtain ⟨U, HUu⟩ : ∃ U, Hid (U = unp s d k t) := ⟨_, rfl⟩
          rw [← HUu.out] at c1 HO
          clear hkd
          go_wp2
          go_region
          rw [HO.out]
          have r4 := ((h2.set0 hlt (unp s d k (t + 1) : Int)).ext (M := fun i => if i < k then (unp s d i d : Int) else if i = k then (unp s d k (t + 1) : Int) else 0) (fun i _ => by
            unfold upd
            by_cases e : i = k
            · rw [if_pos e, if_neg (by omega), if_pos e]
            · simp only [if_neg e])).drew
          have g4 := grown_drew (grown_setNew hg (p := ⟨w.heap.size + 1, k, none⟩) (by show w.heap.size ≤ w.heap.size + 1; omega) (.int .i64 (unp s d k (t + 1) : Int)))
          have o4 := (h1.set_other (p := ⟨w.heap.size + 1, k, none⟩) (by show w.heap.size + 1 ≠ w.heap.size; omega) (.int .i64 (unp s d k (t + 1) : Int))).drew
          generalize (wr.setCell ⟨w.heap.size + 1, k, none⟩ (.int .i64 (unp s d k (t + 1) : Int))).drew = W4 at *
          clear c1 c2 h1 h2 hg m1 m2 m3 m4 m5 m6 m7 HO
          go_wp2
          exact ⟨⟨t + 1, by omega, by go_num, g4, o4, r4⟩, by simp [intOf]; omega⟩
        · obtain rfl : t = d := by omega
          have r4 : PRow .i64 wr (w.heap.size + 1) 0 (fun i => if i < k + 1 then (unp s t i t : Int) else 0) := h2.ext (fun i _ => by
            by_cases e : i < k
            · rw [if_pos e, if_pos (by omega)]
            · rw [if_neg e]; by_cases e2 : i = k
              · rw [if_pos e2, if_pos (by omega), e2]
              · rw [if_neg e2, if_neg (by omega)])
          go_wp2
          exact ⟨⟨k + 1, by omega, by go_num, hg, h1, r4⟩, by simp [intOf]; omega⟩
    · have hk6 : k = 256 := by omega
      subst hk6
      have r3 : PRow .i64 wr (w.heap.size + 1) 0 (fun i => (unp s d i d : Int)) := h2.ext (fun j hj => by rw [if_pos hj])
      have ld := run_hidLd wr (w.heap.size + 1) 0 _ r3
      have st := run_hidSt wr w.heap.size (fun i => (unp s d i d : Int)) _ h1
      have p6 := put_cells .i64 wr w.heap.size 0 (fun i => (unp s d i d : Int)) (h1.there .i64 _)
      clear h1 h2
      go_wp2
      refine bodyPost_ret (v := .agg (polyA .i64 (fun i => (unp s d i d : Int)))) ?_ rfl ⟨rfl, grown_new hg p6.g (Nat.le_refl _)⟩
      exact res1 Tryz.results63 .i64 _ _ w.heap.size _ rfl p6.r ⟨_, Tryz.uY⟩ Tryz.sY
end Go.Proofs.YtkijpphmiogbbaaGreatDoor.Z

namespace Go.Proofs.YtkijpphmiogbbaaGreatDoor
open Go.RowKit

theorem and63 (k : Int) (h0 : 0 ≤ k) (h1 : k < 64) : bits BinOp.and IntKind.u64 k 63 = k := by
  have h : ∀ n : Fin 64, bits BinOp.and IntKind.u64 ((n.val : Nat) : Int) 63 = ((n.val : Nat) : Int) := by decide +kernel
  have := h ⟨k.toNat, by omega⟩
  simpa [Int.toNat_of_nonneg h0] using this

set_option maxHeartbeats 400000 in
theorem shift_any (i : Int) (w : World) (h0 : 0 ≤ i) (h1 : i < 200) :
    Calls Tryz.prog 274 #[.int .i64 i] w fun e w' => e = .returned (.int .i64 (i % 8 * 8)) ∧ w' = w := by
  go_enter Tryz.func274, Tryz.ntmps274
  go_wp2
  go_ret
  exact ⟨rfl, rfl⟩

def rotI (x k : Int) : Int := bits BinOp.or IntKind.u64 (IntKind.u64.wrap (x * 2 ^ k.toNat)) (x / 2 ^ (64 - k).toNat)
set_option maxHeartbeats 400000 in
theorem rot_any (x k : Int) (w : World) (h0 : 0 ≤ k) (h1 : k < 64) :
    Calls Tryz.prog 370 #[.int .u64 x, .int .i64 k] w fun e w' => e = .returned (.int .u64 (rotI x k)) ∧ w' = w := by
  have hk := and63 k h0 h1
  go_enter Tryz.func370, Tryz.ntmps370
  go_wp2
  go_ret
  exact ⟨rfl, rfl⟩

attribute [local go_sem ↓] Go.wp_at_zero Go.wp_at_succ
/-- What 'mix' stores: the lane v with byte c at place n of the state. -/
def mixI (v c : Int) (n : Nat) : Int := bits BinOp.xor IntKind.u64 v (IntKind.u64.wrap (IntKind.u64.wrap c * 2 ^ ((n : Int) % 8 * 8).toNat))
set_option maxHeartbeats 400000 in
theorem mix_any (b n q : Nat) (c v : Int) (w : World) (h1 : n < 200) (hq : (n : Int) / 8 = (q : Int)) (hL : w.cell? ⟨b, q, none⟩ = some (.int .u64 v)) (hf : w.frozen? ⟨b, q, none⟩ = false) :
    Calls Tryz.prog 186 #[.pointer (some ⟨b, 0, none⟩), .int .i64 n, .int .u8 c] w fun e w' => e = .returned (.tuple #[]) ∧ w' = (w.setCell ⟨b, q, none⟩ (.int .u64 (mixI v c n))).drew := by
  have b1 : (0 : Int) ≤ (q : Int) := by omega
  have b2 : (q : Int) < 25 := by omega
  have hq2 : (n : Int).tdiv 8 = (q : Int) := by rw [Int.tdiv_eq_ediv_of_nonneg (by omega)]; exact hq
  have hq3 : IntKind.i64.wrap (q : Int) = q := by rw [IntKind.wrap_i64] <;> omega
  have hq4 : wrap64 (q : Int) = q := by unfold wrap64; omega
  go_enter Tryz.func186, Tryz.ntmps186
  go_region_with (first | (go_at_call 274; refine (shift_any _ _ (by omega) (by omega)).mono ?_; rintro e w' ⟨rfl, rfl⟩))
  all_goals go_end0
  all_goals exact ⟨rfl, rfl⟩
end Go.Proofs.YtkijpphmiogbbaaGreatDoor
