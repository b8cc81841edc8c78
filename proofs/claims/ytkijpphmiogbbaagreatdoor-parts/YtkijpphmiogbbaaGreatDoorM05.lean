import Derived.Test.YtkijpphmiogbbaaGreatDoorM02
import Derived.Test.YtkijpphmiogbbaaGreatDoorM04
namespace Go.Proofs.YtkijpphmiogbbaaGreatDoor.Z
open Go.RowKit
attribute [local go_sem ↓] Go.wp_at_zero Go.wp_at_succ

theorem mul_bd (a b q : Int) (ha : 0 ≤ a) (ha1 : a < q) (hb : 0 ≤ b) (hb1 : b < q) (hq : q ≤ 8380417) : 0 ≤ a * b ∧ a * b ≤ 70231389093889 := by
  have h1 : a * b ≤ 8380417 * 8380417 := Int.mul_le_mul (by omega) (by omega) hb (by omega)
  have h2 : 0 ≤ a * b := Int.mul_nonneg ha hb
  omega
theorem mulmod_val (a b q : Int) (ha : 0 ≤ a) (ha1 : a < q) (hb : 0 ≤ b) (hb1 : b < q) (hq : q ≤ 8380417) : (wrap64 (a * b)).tmod q = a * b % q ∧ IntKind.i64.wrap (a * b) = a * b ∧ (a * b).tmod q = a * b % q := by
  obtain ⟨h0, h1⟩ := mul_bd a b q ha ha1 hb hb1 hq
  have e : IntKind.i64.wrap (a * b) = a * b := by rw [IntKind.wrap_i64] <;> omega
  exact ⟨by rw [wrap_id _ (by omega) (by omega), Int.tmod_eq_emod_of_nonneg h0], e, Int.tmod_eq_emod_of_nonneg h0⟩
theorem pow_step (b q : Int) (k : Nat) : b ^ k % q * b % q = b ^ (k + 1) % q := by
  rw [Int.pow_succ, Int.mul_emod, Int.emod_emod_of_dvd _ (Int.dvd_refl q), ← Int.mul_emod]
set_option maxHeartbeats 2000000 in
set_option maxRecDepth 20000 in
theorem power_any (b : Int) (n : Nat) (h0 : 0 ≤ b) (h1 : b < 3329) (hn : n ≤ 100000) (w : World) :
    Calls Tryz.prog 206 #[.int .i64 b, .int .i64 n] w fun e w' => e = .returned (.int .i64 (b ^ n % 3329)) ∧ w' = w := by
  have n0 : (0 : Int) ≤ (n : Int) := Int.natCast_nonneg n
  have n1 : (n : Int) ≤ 100000 := by omega
  go_enter Tryz.func206, Tryz.ntmps206
  go_wp2
  go_loopw [5, 6] (fun r i wr => ∃ (k : Nat) (v : Int), k ≤ n ∧ i = .int .i64 k ∧ r = .int .i64 v ∧ Hid (v = b ^ k % 3329) ∧ wr = w) (fun _ i _ => n - (intOf i).toNat)
  case atStart => exact ⟨0, 1, by omega, rfl, rfl, (by show (1 : Int) = b ^ 0 % 3329; simp), rfl⟩
  case round =>
    obtain ⟨k, v, hk, rfl, rfl, HV, rfl⟩ := hrel
    by_cases hlt : k < n
    · have k0 : (0 : Int) ≤ (k : Int) := Int.natCast_nonneg k
      have k1 : (k : Int) < n := by omega
      have v0 : 0 ≤ v := by rw [HV.out]; exact Int.emod_nonneg _ (by omega)
      have v1 : v < 3329 := by rw [HV.out]; exact Int.emod_lt_of_pos _ (by omega)
      obtain ⟨e1, e2, e3⟩ := mulmod_val v b 3329 v0 v1 h0 h1 (by omega)
      go_wp2
      refine ⟨⟨k + 1, _, by omega, by go_num, rfl, ?_, trivial⟩, by simp [intOf]; omega⟩
      show v * b % 3329 = _
      rw [HV.out, pow_step]
    · have hk6 : k = n := by omega
      subst hk6
      go_wp2
      go_ret
      exact ⟨by rw [← HV.out]; rfl, rfl⟩
theorem cast_pow (a n q : Nat) : ((a ^ n % q : Nat) : Int) = (a : Int) ^ n % (q : Int) := by rw [Int.natCast_emod, Int.natCast_pow]
def rvk (n : Nat) : Nat → Nat
  | 0 => 0
  | k + 1 => 2 * rvk n k + n / 2 ^ k % 2
theorem and_1 (v : Nat) (hv : v < 256) : bits BinOp.and IntKind.i64 (v : Int) 1 = ((v % 2 : Nat) : Int) := by
  have : ∀ v : Fin 256, bits BinOp.and IntKind.i64 ((v.val : Nat) : Int) 1 = ((v.val % 2 : Nat) : Int) := by decide +kernel
  exact this ⟨v, hv⟩
theorem bit_at (n k : Nat) (hn : n < 256) : bits BinOp.and IntKind.i64 ((n : Int) / 2 ^ k) 1 = ((n / 2 ^ k % 2 : Nat) : Int) := by
  have e : ((n : Int) / 2 ^ k) = ((n / 2 ^ k : Nat) : Int) := by push_cast; rfl
  rw [e, and_1 _ (Nat.lt_of_le_of_lt (Nat.div_le_self _ _) hn)]
theorem rvk7 (n : Nat) (h : n < 128) : rvk n 7 = rev8 n / 2 := by
  have : ∀ n : Fin 128, rvk n.val 7 = rev8 n.val / 2 := by decide +kernel
  exact this ⟨n, h⟩
theorem rvk8 (n : Nat) (h : n < 256) : rvk n 8 = rev8 n := by
  have : ∀ n : Fin 256, rvk n.val 8 = rev8 n.val := by decide +kernel
  exact this ⟨n, h⟩
theorem rvk_lt (n : Nat) : ∀ k, rvk n k < 2 ^ k
  | 0 => by simp [rvk]
  | k + 1 => by have := rvk_lt n k; rw [rvk, Nat.pow_succ]; omega
set_option maxHeartbeats 2000000 in
set_option maxRecDepth 20000 in
theorem reversed_any (n : Nat) (hn : n < 128) (w : World) :
    Calls Tryz.prog 294 #[.int .i64 n] w fun e w' => e = .returned (.int .i64 ((rev8 n / 2 : Nat) : Int)) ∧ w' = w := by
  have n0 : (0 : Int) ≤ (n : Int) := Int.natCast_nonneg n
  have n1 : (n : Int) < 128 := by omega
  go_enter Tryz.func294, Tryz.ntmps294
  go_wp2
  go_loopw [3, 4] (fun r i wr => ∃ (k v : Nat), k ≤ 7 ∧ i = .int .i64 k ∧ r = .int .i64 v ∧ Hid (v = rvk n k) ∧ wr = w) (fun _ i _ => 7 - (intOf i).toNat)
  case atStart => exact ⟨0, 0, by omega, rfl, rfl, (by show 0 = rvk n 0; rfl), rfl⟩
  case round =>
    obtain ⟨k, v, hk, rfl, rfl, HV, rfl⟩ := hrel
    by_cases hlt : k < 7
    · have k0 : (0 : Int) ≤ (k : Int) := Int.natCast_nonneg k
      have k1 : (k : Int) < 7 := by omega
      have v1 : v < 128 := by
        have h := rvk_lt n k
        have h2 : 2 ^ k ≤ 2 ^ 7 := Nat.pow_le_pow_right (by omega) (by omega)
        have := HV.out
        omega
      have e1 := hidz (bit_at n k (by omega))
      go_wp2
      refine ⟨⟨k + 1, 2 * v + n / 2 ^ k % 2, by omega, by go_num, ?_, ?_, trivial⟩, by simp [intOf]; omega⟩
      · rw [e1.out, wrap_id _ (by omega) (by omega)]; rfl
      · show _ = rvk n (k + 1)
        rw [rvk, HV.out]
    · have hk6 : k = 7 := by omega
      subst hk6
      go_wp2
      go_ret
      exact ⟨by rw [← rvk7 n hn, ← HV.out]; rfl, rfl⟩
theorem sq_facts (q r b b2 : Int) (n : Nat) (X : Int) (h : Cg q (r * b ^ n) X) (hb : b2 = b * b % q) : Cg q (r * b2 ^ (n / 2) * (if n % 2 = 1 then b else 1)) X := by
  have e : Cg q (b2 ^ (n / 2)) (b ^ (2 * (n / 2))) := by rw [pow_two, hb]; exact (cg_mod q _).pow _
  by_cases hn : n % 2 = 1
  · rw [if_pos hn]
    refine Cg.trans (((Cg.refl q r).mul e).mul (Cg.refl q b)) (Cg.trans (.of_eq ?_) h)
    rw [Int.mul_assoc, ← Int.pow_succ]
    congr 2
    show 2 * (n / 2) + 1 = n
    omega
  · rw [if_neg hn]
    refine Cg.trans (((Cg.refl q r).mul e).mul (Cg.refl q 1)) (Cg.trans (.of_eq ?_) h)
    rw [Int.mul_one, show 2 * (n / 2) = n by omega]
set_option maxHeartbeats 2000000 in
set_option maxRecDepth 20000 in
theorem powerGreat_any (b : Int) (n : Nat) (h0 : 0 ≤ b) (h1 : b < 8380417) (hn : n ≤ 8380417) (w : World) :
    Calls Tryz.prog 205 #[.int .i64 b, .int .i64 n] w fun e w' => e = .returned (.int .i64 (b ^ n % 8380417)) ∧ w' = w := by
  obtain ⟨X, hX⟩ : ∃ X : Int, X = b ^ n := ⟨_, rfl⟩
  have HX : Hid (X = b ^ n) := hX
  rw [← hX]
  have HS : Hid (Cg 8380417 (1 * b ^ n) X) := .of_eq (by omega)
  clear hX
  go_enter Tryz.func205, Tryz.ntmps205
  go_wp2
  go_loopw [0, 1, 5] (fun bb nn r wr => ∃ (m : Nat) (c v : Int), nn = .int .i64 m ∧ bb = .int .i64 c ∧ r = .int .i64 v ∧ 0 ≤ c ∧ c < 8380417 ∧ 0 ≤ v ∧ v < 8380417 ∧ m ≤ 8380417 ∧ Hid (Cg 8380417 (v * c ^ m) X) ∧ wr = w) (fun _ nn _ _ => (intOf nn).toNat)
  case atStart => exact ⟨n, b, 1, rfl, rfl, rfl, h0, h1, by omega, by omega, hn, HS, rfl⟩
  case round =>
    clear HS HX h0 h1 hn
    obtain ⟨m, c, v, rfl, rfl, rfl, c0, c1, v0, v1, hm, HV, rfl⟩ := hrel
    have m0 : (0 : Int) ≤ (m : Int) := Int.natCast_nonneg m
    have m1 : (m : Int) ≤ 8380417 := by omega
    by_cases hlt : 0 < m
    · have m2 : (0 : Int) < (m : Int) := by omega
      obtain ⟨e1, e2, e3⟩ := mulmod_val v c 8380417 v0 v1 c0 c1 (by omega)
      obtain ⟨f1, f2, f3⟩ := mulmod_val c c 8380417 c0 c1 c0 c1 (by omega)
      have x0 : 0 ≤ c * c % 8380417 ∧ c * c % 8380417 < 8380417 := ⟨Int.emod_nonneg _ (by omega), Int.emod_lt_of_pos _ (by omega)⟩
      have x1 : 0 ≤ v * c % 8380417 ∧ v * c % 8380417 < 8380417 := ⟨Int.emod_nonneg _ (by omega), Int.emod_lt_of_pos _ (by omega)⟩
      have t1 : (m : Int).tmod 2 = ((m % 2 : Nat) : Int) := by rw [Int.tmod_eq_emod_of_nonneg (by omega)]; omega
      have t2 : (m : Int).tdiv 2 = ((m / 2 : Nat) : Int) := by rw [Int.tdiv_eq_ediv_of_nonneg (by omega)]; omega
      have HF := hidz (sq_facts 8380417 v c _ m X HV.out rfl)
      by_cases ho : m % 2 = 1
      · rw [ho] at t1
        go_wp2
        refine ⟨⟨m / 2, _, _, rfl, rfl, rfl, x0.1, x0.2, x1.1, x1.2, by omega, ?_, trivial⟩, by simp [intOf]; omega⟩
        have h := HF.out
        rw [if_pos ho] at h
        exact Cg.trans (((cg_mod _ _).mul (Cg.refl _ _)).trans (.of_eq (by grind))) h
      · have ho2 : m % 2 = 0 := by omega
        rw [ho2] at t1
        go_wp2
        refine ⟨⟨m / 2, _, _, rfl, rfl, rfl, x0.1, x0.2, v0, v1, by omega, ?_, trivial⟩, by simp [intOf]; omega⟩
        have h := HF.out
        rw [if_neg ho, Int.mul_one] at h
        exact h
    · obtain rfl : m = 0 := by omega
      go_wp2
      go_ret
      have hc : Cg 8380417 v (X % 8380417) := ((Cg.of_eq (by simp)).trans HV.out).trans (cg_mod _ _).symm
      exact ⟨by rw [← hc.eq v0 v1 (Int.emod_nonneg _ (by omega)) (Int.emod_lt_of_pos _ (by omega))]; rfl, rfl⟩
set_option maxHeartbeats 2000000 in
set_option maxRecDepth 20000 in
theorem rootOf_any (n : Nat) (hn : n < 256) (w : World) :
    Calls Tryz.prog 203 #[.int .i64 n] w fun e w' => e = .returned (.int .i64 (yG n)) ∧ w' = w := by
  have n0 : (0 : Int) ≤ (n : Int) := Int.natCast_nonneg n
  have n1 : (n : Int) < 256 := by omega
  go_enter Tryz.func203, Tryz.ntmps203
  go_wp2
  go_loopw [3, 4] (fun r i wr => ∃ (k v : Nat), k ≤ 8 ∧ i = .int .i64 k ∧ r = .int .i64 v ∧ Hid (v = rvk n k) ∧ wr = w) (fun _ i _ => 8 - (intOf i).toNat)
  case atStart => exact ⟨0, 0, by omega, rfl, rfl, (by show 0 = rvk n 0; rfl), rfl⟩
  case round =>
    obtain ⟨k, v, hk, rfl, rfl, HV, rfl⟩ := hrel
    have v1 : v < 256 := by
      have h := rvk_lt n k
      have h2 : 2 ^ k ≤ 2 ^ 8 := Nat.pow_le_pow_right (by omega) (by omega)
      have := HV.out
      omega
    by_cases hlt : k < 8
    · have k0 : (0 : Int) ≤ (k : Int) := Int.natCast_nonneg k
      have k1 : (k : Int) < 8 := by omega
      have e1 := hidz (bit_at n k (by omega))
      go_wp2
      refine ⟨⟨k + 1, 2 * v + n / 2 ^ k % 2, by omega, by go_num, ?_, ?_, trivial⟩, by simp [intOf]; omega⟩
      · rw [e1.out, wrap_id _ (by omega) (by omega)]; rfl
      · show _ = rvk n (k + 1)
        rw [rvk, HV.out]
    · have hk6 : k = 8 := by omega
      subst hk6
      have v0 : (0 : Int) ≤ (v : Int) := Int.natCast_nonneg v
      have e2 : IntKind.i64.wrap (2 * (v : Int) + 1) = 2 * (v : Int) + 1 := by rw [IntKind.wrap_i64] <;> omega
      have HC := hidz (powerGreat_any 1753 (2 * v + 1) (by omega) (by omega) (by omega) wr)
      rw [show ((2 * v + 1 : Nat) : Int) = 2 * (v : Int) + 1 by push_cast; rfl] at HC
      have HR : Hid ((1753 : Int) ^ (2 * v + 1) % 8380417 = yG n) := by
        show _ = _
        rw [yG_doc n hn, ← rvk8 n hn, ← HV.out]
        exact (cast_pow 1753 (2 * v + 1) 8380417).symm
      go_wp2_with fail
      refine HC.out.mono ?_
      rintro e w1 ⟨rfl, rfl⟩
      rw [HR.out]
      go_wp2
      go_ret
      exact ⟨rfl, rfl⟩
/-- The cells of an array of 128 numbers. -/
def rtL (f : Nat → Int) : Array Value := ((List.range 128).map fun i => Value.int .i64 (f i)).toArray
end Go.Proofs.YtkijpphmiogbbaaGreatDoor.Z

namespace Go.Proofs.YtkijpphmiogbbaaGreatDoor.Hf
open Go.RowKit
/-- 128 cells as values. -/
def polyL (k : IntKind) (L : Nat → Int) : List Value := (List.range 128).map fun i => Value.int k (L i)
def polyA (k : IntKind) (L : Nat → Int) : Array Value := (polyL k L).toArray
theorem polyL_len (k : IntKind) (L : Nat → Int) : (polyL k L).length = 128 := by simp [polyL]
theorem polyA_size (k : IntKind) (L : Nat → Int) : (polyA k L).size = 128 := by simp [polyA, polyL]
theorem polyL_at (k : IntKind) (L : Nat → Int) (i : Nat) (h : i < 128) : (polyL k L)[i]? = some (.int k (L i)) := by
  unfold polyL; rw [List.getElem?_map, List.getElem?_range h]; rfl
theorem polyA_at (k : IntKind) (L : Nat → Int) (i : Nat) (h : i < 128) : (polyA k L)[i]? = some (.int k (L i)) := by
  unfold polyA; rw [List.getElem?_toArray]; exact polyL_at k L i h
theorem polyA_ext (k : IntKind) {L M : Nat → Int} (h : ∀ i, i < 128 → L i = M i) : polyA k L = polyA k M := by
  unfold polyA polyL
  congr 1
  exact List.map_congr_left (fun i hi => by rw [h i (List.mem_range.1 hi)])
theorem polyA_one (k : IntKind) (L : Nat → Int) : (polyA k L).all (·.oneCell') = true := by
  rw [Array.all_eq_true_iff_forall_mem]
  intro x hx
  unfold polyA polyL at hx
  simp at hx
  obtain ⟨i, _, rfl⟩ := hx
  rfl

/-- 128 cells lie in block b from o on, and may be written. -/
def PRow (k : IntKind) (w : World) (b o : Nat) (L : Nat → Int) : Prop := ∀ i, i < 128 → w.cell? ⟨b, o + i, none⟩ = some (.int k (L i)) ∧ w.frozen? ⟨b, o + i, none⟩ = false
theorem PRow.range {k : IntKind} {w : World} {b o : Nat} {L : Nat → Int} (h : PRow k w b o L) : w.rangeAt b o (polyL k L) := by
  intro j v hv
  rcases Nat.lt_or_ge j 128 with hj | hj
  · rw [polyL_at k L j hj] at hv; rw [(h j hj).1]; exact hv
  · rw [List.getElem?_eq_none (by rw [polyL_len]; exact hj)] at hv; cases hv
theorem PRow.there {k : IntKind} {w : World} {b o : Nat} {L : Nat → Int} (h : PRow k w b o L) (j : IntKind) (M : Nat → Int) : w.there b o (polyA j M).size := by
  intro i hi
  rw [polyA_size] at hi
  exact ⟨by rw [(h i hi).1]; rfl, (h i hi).2⟩
theorem PRow.lt {k : IntKind} {w : World} {b o : Nat} {L : Nat → Int} (h : PRow k w b o L) : b < w.heap.size := cell_lt (h 0 (by omega)).1
theorem PRow.at0 {k : IntKind} {w : World} {b : Nat} {L : Nat → Int} (h : PRow k w b 0 L) (i : Nat) (hi : i < 128) : w.cell? ⟨b, i, none⟩ = some (.int k (L i)) ∧ w.frozen? ⟨b, i, none⟩ = false := by
  have := h i hi
  rwa [Nat.zero_add] at this
theorem PRow.far {k : IntKind} {w w' : World} {b o : Nat} {r : Option Nat} {L : Nat → Int} (h : PRow k w b o L) (hg : w.grownBy w' r) (hne : some b ≠ r) : PRow k w' b o L := by
  intro i hi
  have hc := h.lt
  exact ⟨hg.cell (h i hi).1 hne, by rw [hg.frozen_far ⟨b, o + i, none⟩ hc hne]; exact (h i hi).2⟩
theorem PRow.new {k : IntKind} {w w' : World} {b o : Nat} {L : Nat → Int} (h : PRow k w b o L) (hg : w.grownBy w' none) : PRow k w' b o L := h.far hg (by simp)
theorem PRow.drew {k : IntKind} {w : World} {b o : Nat} {L : Nat → Int} (h : PRow k w b o L) : PRow k w.drew b o L := h
theorem PRow.ext {k : IntKind} {w : World} {b o : Nat} {L M : Nat → Int} (h : PRow k w b o L) (e : ∀ i, i < 128 → L i = M i) : PRow k w b o M := fun i hi => by rw [← e i hi]; exact h i hi
theorem PRow.set0 {k : IntKind} {w : World} {b : Nat} {L : Nat → Int} (h : PRow k w b 0 L) {i : Nat} (hi : i < 128) (v : Int) : PRow k (w.setCell ⟨b, i, none⟩ (.int k v)) b 0 (upd L i v) := by
  intro j hj
  rw [Nat.zero_add]
  have hh := h.at0 j hj
  refine ⟨?_, by rw [frozen_set]; exact hh.2⟩
  by_cases e : j = i
  · subst e; rw [cell_same hh.1, upd_same]
  · rw [cell_other _ _ _ _ (Or.inr e), upd_ne _ _ _ _ e]; exact hh.1
theorem PRow.set_other {k : IntKind} {w : World} {b o : Nat} {L : Nat → Int} (h : PRow k w b o L) {p : Addr} (hp : p.block ≠ b) (v : Value) : PRow k (w.setCell p v) b o L := by
  intro j hj
  exact ⟨by rw [cell_other _ _ _ _ (Or.inl (Ne.symm hp))]; exact (h j hj).1, by rw [frozen_set]; exact (h j hj).2⟩

theorem grown_new {w w1 w2 : World} {b : Nat} (h : w.grownBy w1 none) (k : w1.grownBy w2 (some b)) (hb : w.heap.size ≤ b) : w.grownBy w2 none :=
  ⟨k.os.trans h.os, k.tape.trans h.tape, k.output.trans h.output, Nat.le_trans h.size k.size, fun i hi _ => (k.block i (Nat.lt_of_lt_of_le hi h.size) (by simp; omega)).trans (h.block i hi (by simp))⟩
theorem grown_setNew {w w1 : World} (g : w.grownBy w1 none) {p : Addr} (hp : w.heap.size ≤ p.block) (v : Value) : w.grownBy (w1.setCell p v) none :=
  ⟨g.os, g.tape, g.output, by simpa using g.size, fun k hk hr => (Below.heap_setCell _ _ _ _ (by omega)).trans (g.block k hk hr)⟩
theorem grown_drew {w w1 : World} {r : Option Nat} (g : w.grownBy w1 r) : w.grownBy w1.drew r := ⟨g.os, g.tape, g.output, g.size, g.block⟩
theorem below_of_grown {w w' : World} (h : w.grownBy w' none) : Below w.heap.size w w' := ⟨h.os, h.tape, h.output, h.size, fun k hk => h.block k hk (by simp)⟩

/-- One new block, with these 128 cells. -/
structure New (k : IntKind) (w w' : World) (L : Nat → Int) : Prop where
  g : w.grownBy w' none
  s : w'.heap.size = w.heap.size + 1
  r : PRow k w' w.heap.size 0 L
/-- These 128 cells were written. -/
structure Put (k : IntKind) (w w' : World) (b o : Nat) (L : Nat → Int) : Prop where
  g : w.grownBy w' (some b)
  s : w'.heap.size = w.heap.size
  r : PRow k w' b o L
  out : ∀ i, i < o ∨ o + 128 ≤ i → w'.cell? ⟨b, i, none⟩ = w.cell? ⟨b, i, none⟩
  fz : ∀ i, w'.frozen? ⟨b, i, none⟩ = w.frozen? ⟨b, i, none⟩
theorem new_alloc (k : IntKind) (w : World) (L : Nat → Int) (T : TypeId) : New k w (w.alloc (.cells (polyA k L) T)) L :=
  ⟨World.grownBy_alloc _ _ _, World.size_alloc _ _, fun i hi => by
    rw [Nat.zero_add]
    exact ⟨by rw [World.cell?_alloc_new]; exact polyA_at k L i hi, World.frozen?_alloc_at _ _ _ _ rfl⟩⟩
theorem grown_setCells (b : Nat) : ∀ (vs : List Value) (o : Nat) (w w1 : World), w.grownBy w1 (some b) → w.grownBy (w1.setCells b o vs) (some b)
  | [], _, _, _, h => h
  | v :: r, o, w, w1, h => by
    rw [World.setCells]
    exact grown_setCells b r (o + 1) w _ ⟨h.os, h.tape, h.output, by simpa using h.size, fun k hk hr => (Below.heap_setCell _ _ _ _ (fun e => hr (by simp [e]))).trans (h.block k hk hr)⟩
theorem size_setCells (b : Nat) : ∀ (vs : List Value) (o : Nat) (w : World), (w.setCells b o vs).heap.size = w.heap.size
  | [], _, _ => rfl
  | v :: r, o, w => by rw [World.setCells, size_setCells b r (o + 1)]; simp
theorem put_cells (k : IntKind) (w : World) (b o : Nat) (L : Nat → Int) (ht : w.there b o (polyA k L).size) : Put k w (w.setCells b o (polyA k L).toList) b o L := by
  have hl : (polyA k L).toList.length = 128 := by rw [Array.length_toList, polyA_size]
  have ht' : ∀ j, j < 128 → (w.cell? ⟨b, o + j, none⟩).isSome = true ∧ w.frozen? ⟨b, o + j, none⟩ = false := fun j hj => ht j (by rw [polyA_size]; exact hj)
  refine ⟨grown_setCells b _ o w w (World.grownBy.refl w _), size_setCells b _ o w, fun i hi => ⟨?_, by rw [World.frozen?_setCells]; exact (ht' i hi).2⟩, fun i hi => ?_, fun i => World.frozen?_setCells _ _ _ _ _⟩
  · rw [World.cell?_setCells_in b _ o w (fun j hj => (ht' j (by omega)).1) i (by omega)]
    have e := polyA_at k L i hi
    rw [Array.getElem?_eq_getElem (by rw [polyA_size]; exact hi)] at e
    simpa using e
  · exact World.cell?_setCells_out b _ o w ⟨b, i, none⟩ (fun _ _ => by rw [hl]; rcases hi with h | h; · left; exact h
                                                                       · right; exact h)

theorem run_loadRow {P : Program} (k : IntKind) (w : World) (ty : TypeId) (b f : Nat) (L : Nat → Int) (hr : PRow k w b f L)
    (hu : ∃ e, P.underlying ty = some (.array 128 e)) (hi : (P.info? ty).map (·.size) = some 128) :
    (loadVar ty ⟨b, f, none⟩).run P w = .ok (.agg (polyA k L)) w := by
  obtain ⟨_, hu⟩ := hu; exact run_loadVar_mid w b f ty (polyL k L) _ hr.range hu rfl (by rw [polyL_len]; exact hi)
theorem res1 {P : Program} {fn : Func} {p : Tmp} {ty : TypeId} (h : fn.results = #[.cell p ty]) (k : IntKind) (tmps : Array Value) (w : World) (g : Nat) (L : Nat → Int)
    (hp : tmps.getD p undef = .pointer (some ⟨g, 0, none⟩)) (hr : PRow k w g 0 L)
    (hu : ∃ e, P.underlying ty = some (.array 128 e)) (hi : (P.info? ty).map (·.size) = some 128) :
    (results fn tmps).run P w = .ok (.agg (polyA k L)) w := by
  have hp' : tmps[p]?.getD undef = .pointer (some ⟨g, 0, none⟩) := by simpa using hp
  simp [results, h, hp', asAddr, run_loadRow k w ty g 0 L hr hu hi]
/-- Loads and stores of whole polynomials, kept from being laid open. -/
theorem Tryz.uR : Tryz.prog.underlying 245 = some (.array 128 3) := by kernel_rfl
theorem Tryz.sR : (Tryz.prog.info? 245).map (·.size) = some 128 := by kernel_rfl
theorem Tryz.zR : Tryz.zeroCells245 = polyA .i64 (fun _ => 0) := by kernel_rfl
def hidLd (p : Value) : Sem Value := Instr.loadAt 245 p
def hidSt (p v : Value) := Instr.storeAt 245 p v
theorem ld_hide (p : Value) : Instr.loadAt 245 p = hidLd p := rfl
theorem st_hide (p v : Value) : Instr.storeAt 245 p v = hidSt p v := rfl
theorem run_hidLd (W : World) (b f : Nat) (L : Nat → Int) (hr : PRow .i64 W b f L) : (hidLd (.pointer (some ⟨b, f, none⟩))).run Tryz.prog W = .ok (.agg (polyA .i64 L)) W := by
  unfold hidLd
  simp only [Instr.loadAt, Instr.sureAddr, Sem.run_bind, Sem.run_pure, Result.andThen_ok, run_loadRow .i64 W 245 b f L hr ⟨_, Tryz.uR⟩ Tryz.sR]
theorem run_hidSt (W : World) (b : Nat) (L M : Nat → Int) (hr : PRow .i64 W b 0 M) : (hidSt (.pointer (some ⟨b, 0, none⟩)) (.agg (polyA .i64 L))).run Tryz.prog W = .ok () (W.setCells b 0 (polyA .i64 L).toList) :=
  run_storeAt_mid W b 0 245 (polyA .i64 L) (hr.there .i64 L) (by rw [polyA_size]; exact Tryz.sR) (polyA_one .i64 L)
end Go.Proofs.YtkijpphmiogbbaaGreatDoor.Hf
namespace Go.Proofs.YtkijpphmiogbbaaGreatDoor.Z
open Go.RowKit
attribute [local go_sem ↓] Go.wp_at_zero Go.wp_at_succ
attribute [local go_sem ↓] Hf.ld_hide Hf.st_hide
set_option maxHeartbeats 2000000 in
set_option maxRecDepth 20000 in
theorem roots_any (w : World) :
    Calls Tryz.prog 204 #[] w fun e w' => e = .returned (.agg (Hf.polyA .i64 yS)) ∧ w.grownBy w' none := by
  have n1 := Hf.new_alloc .i64 w (fun _ => 0) 245
  rw [← Hf.Tryz.zR] at n1
  generalize hw1 : w.alloc (.cells Tryz.zeroCells245 245) = w1 at n1
  have n2 := Hf.new_alloc .i64 w1 (fun _ => 0) 245
  rw [← Hf.Tryz.zR] at n2
  have s1 := n1.s
  have g3 : w.grownBy (w1.alloc (.cells Tryz.zeroCells245 245)) none := grownBy_trans n1.g n2.g
  have r1 := n1.r.new n2.g
  have r2 := n2.r
  rw [s1] at r2
  have HRev := hidz reversed_any
  have HPow := hidz power_any
  go_enter Tryz.func204, Tryz.ntmps204
  go_wp2
  generalize (w.alloc (.cells Tryz.zeroCells245 245)) = w9 at *
  subst hw1
  generalize w9.alloc (.cells Tryz.zeroCells245 245) = W3 at *
  clear n1 n2 s1
  go_loopw [2] (fun i wr => ∃ k : Nat, k ≤ 128 ∧ i = .int .i64 k ∧ w.grownBy wr none ∧ Hf.PRow .i64 wr w.heap.size 0 (fun _ => 0) ∧ Hf.PRow .i64 wr (w.heap.size + 1) 0 (fun j => if j < k then yS j else 0)) (fun i _ => 128 - (intOf i).toNat)
  case atStart => exact ⟨0, by omega, rfl, g3, r1, r2.ext (fun j _ => by simp)⟩
  case round =>
    clear g3 r1 r2
    obtain ⟨k, hk, rfl, hg, h1, h2⟩ := hrel
    by_cases hlt : k < 128
    · have k0 : (0 : Int) ≤ (k : Int) := Int.natCast_nonneg k
      have k1 : (k : Int) < 128 := by omega
      have c1 := (h2.at0 k hlt).1
      have c2 := (h2.at0 k hlt).2
      go_wp2_with fail
      refine (HRev.out k hlt wr).mono ?_
      rintro e w1 ⟨rfl, rfl⟩
      have hv : rev8 k / 2 < 128 := by
        have h := rvk_lt k 7
        rw [rvk7 k hlt] at h
        omega
      have HD := hidz (yS_doc k hlt)
      generalize rev8 k / 2 = v at *
      have v0 : (0 : Int) ≤ (v : Int) := Int.natCast_nonneg v
      have e2 : IntKind.i64.wrap (2 * (v : Int) + 1) = 2 * (v : Int) + 1 := by rw [IntKind.wrap_i64] <;> omega
      have HC := hidz (HPow.out 17 (2 * v + 1) (by omega) (by omega) (by omega) w1)
      rw [show ((2 * v + 1 : Nat) : Int) = 2 * (v : Int) + 1 by push_cast; rfl] at HC
      have HR : Hid ((17 : Int) ^ (2 * v + 1) % 3329 = yS k) := by
        show _ = _
        rw [HD.out]
        exact (cast_pow 17 (2 * v + 1) 3329).symm
      go_wp2_with fail
      refine HC.out.mono ?_
      rintro e w2 ⟨rfl, rfl⟩
      rw [HR.out]
      go_wp2
      exact ⟨⟨k + 1, by omega, by go_num, grown_setNew hg (by show w.heap.size ≤ w.heap.size + 1; omega) _, h1.set_other (by show w.heap.size + 1 ≠ w.heap.size; omega) _, (h2.set0 hlt (yS k)).ext (fun j _ => mix_step yS (fun _ => 0) k j)⟩, by simp [intOf]; omega⟩
    · have hk6 : k = 128 := by omega
      subst hk6
      have r3 : Hf.PRow .i64 wr (w.heap.size + 1) 0 yS := h2.ext (fun j hj => by rw [if_pos hj])
      have ld := Hf.run_hidLd wr (w.heap.size + 1) 0 _ r3
      have st := Hf.run_hidSt wr w.heap.size yS _ h1
      have p6 := Hf.put_cells .i64 wr w.heap.size 0 yS (h1.there .i64 _)
      clear h1 h2
      go_wp2
      refine bodyPost_ret (v := .agg (Hf.polyA .i64 yS)) ?_ rfl ⟨rfl, grown_new hg p6.g (Nat.le_refl _)⟩
      exact Hf.res1 Tryz.results204 .i64 _ _ w.heap.size _ rfl p6.r ⟨_, Hf.Tryz.uR⟩ Hf.Tryz.sR
end Go.Proofs.YtkijpphmiogbbaaGreatDoor.Z
