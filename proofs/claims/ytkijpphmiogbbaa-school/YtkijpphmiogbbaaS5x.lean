import Derived.Test.YtkijpphmiogbbaaR4x
namespace Go.Proofs.Ytkijpphmiogbbaa
open Go.RowKit
attribute [local go_sem ↓] Go.wp_at_zero Go.wp_at_succ

def revN32 (i : Nat) : Nat := rev8 i
theorem revN32_lt (i : Nat) (h : i < 256) : revN32 i < 256 ∧ revN32 (revN32 i) = i := by
  have : ∀ i : Fin 256, revN32 i.val < 256 ∧ revN32 (revN32 i.val) = i.val := by decide +kernel
  exact this ⟨i, h⟩
def zTo32 (e : Nat) : Nat → Int := fun i => if i < 256 ∧ revN32 i < e then ((1753 ^ revN32 i % 8380417 : Nat) : Int) else 0
theorem zTo32_step (e : Nat) (he : e < 256) (j : Nat) : upd (zTo32 e) (revN32 e) ((1753 ^ e % 8380417 : Nat) : Int) j = zTo32 (e + 1) j := by
  have h1 := revN32_lt e he
  unfold upd zTo32
  by_cases h : j = revN32 e
  · subst h
    rw [if_pos rfl, h1.2, if_pos ⟨h1.1, by omega⟩]
  · rw [if_neg h]
    by_cases h2 : j < 256
    · have h3 := revN32_lt j h2
      have hne : revN32 j ≠ e := fun q => h (by rw [← q, h3.2])
      by_cases h4 : revN32 j < e
      · rw [if_pos ⟨h2, h4⟩, if_pos ⟨h2, by omega⟩]
      · rw [if_neg (by omega), if_neg (by omega)]
    · rw [if_neg (by omega), if_neg (by omega)]
theorem zTo32_all (i : Nat) : zTo32 256 i = zetG i := by
  unfold zTo32 zetG
  by_cases h : i < 256
  · rw [if_pos ⟨h, (revN32_lt i h).1⟩, if_pos h]; rfl
  · rw [if_neg (by omega), if_neg h]
theorem pw32_step (e : Nat) : (1753 ^ e % 8380417) * 1753 % 8380417 = 1753 ^ (e + 1) % 8380417 := by
  rw [Nat.pow_succ, Nat.mul_mod, Nat.mod_mod, ← Nat.mul_mod]
theorem Rg32.zet {w : World} {b : Nat} {z : Nat → Int} {sc : Int} (h : Rg32 w b z sc) {i : Nat} (hi : i < 256) (v : Int) : Rg32 (w.setCell ⟨b, 3 + i, none⟩ (.int .u32 v)) b (upd z i v) sc := by
  refine ⟨?_, ?_, ?_, fun j hj => ⟨?_, by rw [frozen_set]; exact (h.zetas j hj).2⟩, ⟨?_, by rw [frozen_set]; exact h.scale.2⟩⟩
  · rw [cell_other _ _ _ _ (Or.inr (by simp; omega))]; exact h.q
  · rw [cell_other _ _ _ _ (Or.inr (by simp; omega))]; exact h.leaf
  · rw [cell_other _ _ _ _ (Or.inr (by simp; omega))]; exact h.mod
  · by_cases e : j = i
    · subst e; rw [cell_same (h.zetas j hj).1, upd_same]
    · rw [cell_other _ _ _ _ (Or.inr (by simp; omega)), upd_ne _ _ _ _ e]; exact (h.zetas j hj).1
  · rw [cell_other _ _ _ _ (Or.inr (by simp; omega))]; exact h.scale.1
theorem Rg32.sca {w : World} {b : Nat} {z : Nat → Int} {sc : Int} (h : Rg32 w b z sc) (v : Int) : Rg32 (w.setCell ⟨b, 259, none⟩ (.int .u32 v)) b z v := by
  refine ⟨?_, ?_, ?_, fun j hj => ⟨?_, by rw [frozen_set]; exact (h.zetas j hj).2⟩, ⟨?_, by rw [frozen_set]; exact h.scale.2⟩⟩
  · rw [cell_other _ _ _ _ (Or.inr (by simp))]; exact h.q
  · rw [cell_other _ _ _ _ (Or.inr (by simp))]; exact h.leaf
  · rw [cell_other _ _ _ _ (Or.inr (by simp))]; exact h.mod
  · rw [cell_other _ _ _ _ (Or.inr (by simp; omega))]; exact (h.zetas j hj).1
  · rw [cell_same h.scale.1]
theorem Rg32.ext {w : World} {b : Nat} {z y : Nat → Int} {sc : Int} (h : Rg32 w b z sc) (e : ∀ i, i < 256 → z i = y i) : Rg32 w b y sc := ⟨h.q, h.leaf, h.mod, fun i hi => by rw [← e i hi]; exact h.zetas i hi, h.scale⟩

def invSt32 : Nat → Nat × Nat
  | 0 => (1, 256)
  | n + 1 => (if (8380417 - 2) / 2 ^ n % 2 = 1 then (invSt32 n).1 * (invSt32 n).2 % 8380417 else (invSt32 n).1, (invSt32 n).2 * (invSt32 n).2 % 8380417)
theorem invSt32_lt (n : Nat) : (invSt32 n).1 < 8380417 ∧ (invSt32 n).2 < 8380417 := by
  induction n with
  | zero => exact ⟨by decide, by decide⟩
  | succ n ih =>
    refine ⟨?_, Nat.mod_lt _ (by omega)⟩
    show (if (8380417 - 2) / 2 ^ n % 2 = 1 then (invSt32 n).1 * (invSt32 n).2 % 8380417 else (invSt32 n).1) < 8380417
    split
    · exact Nat.mod_lt _ (by omega)
    · exact ih.1
theorem invSt32_end (n : Nat) (hn : n ≤ 24) (h : (8380417 - 2) / 2 ^ n = 0) : (invSt32 n).1 = 8347681 := by
  have : ∀ n : Fin 25, (8380417 - 2) / 2 ^ n.val = 0 → (invSt32 n.val).1 = 8347681 := by decide +kernel
  exact this ⟨n, by omega⟩ h
theorem invSt32_go (n : Nat) (hn : n ≤ 24) (h : 0 < (8380417 - 2) / 2 ^ n) : n < 24 := by
  rcases Nat.lt_or_ge n 24 with q | q
  · exact q
  · have : n = 24 := by omega
    subst this
    exact absurd h (by decide)
set_option maxHeartbeats 1000000 in
theorem inverse32_any (b : Nat) (z : Nat → Int) (sc : Int) (w : World) (hR : Rg32 w b z sc) :
    Calls Try.prog 67 #[.pointer (some ⟨b, 0, none⟩), .int .u32 256] w fun e w' => e = .returned (.int .u32 8347681) ∧ w' = w := by
  have hq := hR.q
  go_enter Try.func67, Try.ntmps67
  go_wp2
  go_loopw [1, 5, 6] (fun a p e wr => ∃ n ee : Nat, n ≤ 24 ∧ a = .int .u32 ((invSt32 n).2 : Int) ∧ p = .int .u32 ((invSt32 n).1 : Int) ∧ e = .int .u32 ee ∧ Hid (ee = (8380417 - 2) / 2 ^ n) ∧ wr = w) (fun _ _ e _ => (intOf e).toNat)
  case atStart => exact ⟨0, 8380417 - 2, by omega, rfl, rfl, rfl, show 8380417 - 2 = (8380417 - 2) / 2 ^ 0 by decide, rfl⟩
  case round =>
    obtain ⟨n, ee, hn, rfl, rfl, rfl, HE, hw⟩ := hrel
    subst hw
    have hl := invSt32_lt n
    by_cases h0 : 0 < ee
    · have hlt := invSt32_go n hn (by rw [← HE.out]; exact h0)
      have HN := hid_of (show invSt32 (n + 1) = (if (8380417 - 2) / 2 ^ n % 2 = 1 then (invSt32 n).1 * (invSt32 n).2 % 8380417 else (invSt32 n).1, (invSt32 n).2 * (invSt32 n).2 % 8380417) from rfl)
      rw [← HE.out] at HN
      generalize (invSt32 n).1 = p at *
      generalize (invSt32 n).2 = a at *
      have HT := hid_of (fun x y hx hy => times32_any b z sc x y wr hR hx hy)
      have hpl := hl.1
      have hal := hl.2
      have hee : ee ≤ 8380417 := by rw [HE.out]; exact Nat.le_trans (Nat.div_le_self (8380417 - 2) (2 ^ n)) (by decide)
      have c0 : (0 : Int) < (ee : Int) := by omega
      by_cases ho : ee % 2 = 1
      · have o1 : (((ee : Int) % 2) == 1) = true := by simp; omega
        go_wp2_with (first | (go_at_call 52; refine (HT.out _ _ (by assumption) (by assumption)).mono ?_; rintro _ w' ⟨rfl, hw⟩; rw [hw]; clear hw w'))
        go_roundw
        case rel =>
          rw [if_pos ho] at HN
          refine ⟨n + 1, ee / 2, by omega, by rw [HN.out]; simp, by rw [HN.out]; simp, ?_, ?_, trivial⟩
          · congr 1
          · show ee / 2 = _
            rw [Nat.pow_succ, ← Nat.div_div_eq_div_mul, ← HE.out]
        case measure => simp [intOf]; omega
      · have o1 : (((ee : Int) % 2) == 1) = false := by simp; omega
        go_wp2_with (first | (go_at_call 52; refine (HT.out _ _ (by assumption) (by assumption)).mono ?_; rintro _ w' ⟨rfl, hw⟩; rw [hw]; clear hw w'))
        go_roundw
        case rel =>
          rw [if_neg ho] at HN
          refine ⟨n + 1, ee / 2, by omega, by rw [HN.out]; simp, by rw [HN.out], ?_, ?_, trivial⟩
          · congr 1
          · show ee / 2 = _
            rw [Nat.pow_succ, ← Nat.div_div_eq_div_mul, ← HE.out]
        case measure => simp [intOf]; omega
    · have h00 : ee = 0 := by omega
      subst h00
      have he := invSt32_end n hn HE.out.symm
      rw [he]
      go_wp2
      go_ret
      exact ⟨rfl, rfl⟩
end Go.Proofs.Ytkijpphmiogbbaa
