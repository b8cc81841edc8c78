import Derived.Test.YtkijpphmiogbbaaR4x
namespace Go.Proofs.Ytkijpphmiogbbaa
open Go.RowKit
attribute [local go_sem ↓] Go.wp_at_zero Go.wp_at_succ

def revN16 (i : Nat) : Nat := rev8 i / 2
theorem revN16_lt (i : Nat) (h : i < 128) : revN16 i < 128 ∧ revN16 (revN16 i) = i := by
  have : ∀ i : Fin 128, revN16 i.val < 128 ∧ revN16 (revN16 i.val) = i.val := by decide +kernel
  exact this ⟨i, h⟩
def zTo16 (e : Nat) : Nat → Int := fun i => if i < 128 ∧ revN16 i < e then ((17 ^ revN16 i % 3329 : Nat) : Int) else 0
theorem zTo16_step (e : Nat) (he : e < 128) (j : Nat) : upd (zTo16 e) (revN16 e) ((17 ^ e % 3329 : Nat) : Int) j = zTo16 (e + 1) j := by
  have h1 := revN16_lt e he
  unfold upd zTo16
  by_cases h : j = revN16 e
  · subst h
    rw [if_pos rfl, h1.2, if_pos ⟨h1.1, by omega⟩]
  · rw [if_neg h]
    by_cases h2 : j < 128
    · have h3 := revN16_lt j h2
      have hne : revN16 j ≠ e := fun q => h (by rw [← q, h3.2])
      by_cases h4 : revN16 j < e
      · rw [if_pos ⟨h2, h4⟩, if_pos ⟨h2, by omega⟩]
      · rw [if_neg (by omega), if_neg (by omega)]
    · rw [if_neg (by omega), if_neg (by omega)]
theorem zTo16_all (i : Nat) : zTo16 128 i = zetS i := by
  unfold zTo16 zetS
  by_cases h : i < 128
  · rw [if_pos ⟨h, (revN16_lt i h).1⟩, if_pos h]; rfl
  · rw [if_neg (by omega), if_neg h]
theorem pw16_step (e : Nat) : (17 ^ e % 3329) * 17 % 3329 = 17 ^ (e + 1) % 3329 := by
  rw [Nat.pow_succ, Nat.mul_mod, Nat.mod_mod, ← Nat.mul_mod]
theorem Rg16.zet {w : World} {b : Nat} {z : Nat → Int} {sc : Int} (h : Rg16 w b z sc) {i : Nat} (hi : i < 256) (v : Int) : Rg16 (w.setCell ⟨b, 3 + i, none⟩ (.int .u16 v)) b (upd z i v) sc := by
  refine ⟨?_, ?_, ?_, fun j hj => ⟨?_, by rw [frozen_set]; exact (h.zetas j hj).2⟩, ⟨?_, by rw [frozen_set]; exact h.scale.2⟩⟩
  · rw [cell_other _ _ _ _ (Or.inr (by simp; omega))]; exact h.q
  · rw [cell_other _ _ _ _ (Or.inr (by simp; omega))]; exact h.leaf
  · rw [cell_other _ _ _ _ (Or.inr (by simp; omega))]; exact h.mod
  · by_cases e : j = i
    · subst e; rw [cell_same (h.zetas j hj).1, upd_same]
    · rw [cell_other _ _ _ _ (Or.inr (by simp; omega)), upd_ne _ _ _ _ e]; exact (h.zetas j hj).1
  · rw [cell_other _ _ _ _ (Or.inr (by simp; omega))]; exact h.scale.1
theorem Rg16.sca {w : World} {b : Nat} {z : Nat → Int} {sc : Int} (h : Rg16 w b z sc) (v : Int) : Rg16 (w.setCell ⟨b, 259, none⟩ (.int .u16 v)) b z v := by
  refine ⟨?_, ?_, ?_, fun j hj => ⟨?_, by rw [frozen_set]; exact (h.zetas j hj).2⟩, ⟨?_, by rw [frozen_set]; exact h.scale.2⟩⟩
  · rw [cell_other _ _ _ _ (Or.inr (by simp))]; exact h.q
  · rw [cell_other _ _ _ _ (Or.inr (by simp))]; exact h.leaf
  · rw [cell_other _ _ _ _ (Or.inr (by simp))]; exact h.mod
  · rw [cell_other _ _ _ _ (Or.inr (by simp; omega))]; exact (h.zetas j hj).1
  · rw [cell_same h.scale.1]
theorem Rg16.ext {w : World} {b : Nat} {z y : Nat → Int} {sc : Int} (h : Rg16 w b z sc) (e : ∀ i, i < 256 → z i = y i) : Rg16 w b y sc := ⟨h.q, h.leaf, h.mod, fun i hi => by rw [← e i hi]; exact h.zetas i hi, h.scale⟩

def invSt16 : Nat → Nat × Nat
  | 0 => (1, 128)
  | n + 1 => (if (3329 - 2) / 2 ^ n % 2 = 1 then (invSt16 n).1 * (invSt16 n).2 % 3329 else (invSt16 n).1, (invSt16 n).2 * (invSt16 n).2 % 3329)
theorem invSt16_lt (n : Nat) : (invSt16 n).1 < 3329 ∧ (invSt16 n).2 < 3329 := by
  induction n with
  | zero => exact ⟨by decide, by decide⟩
  | succ n ih =>
    refine ⟨?_, Nat.mod_lt _ (by omega)⟩
    show (if (3329 - 2) / 2 ^ n % 2 = 1 then (invSt16 n).1 * (invSt16 n).2 % 3329 else (invSt16 n).1) < 3329
    split
    · exact Nat.mod_lt _ (by omega)
    · exact ih.1
theorem invSt16_end (n : Nat) (hn : n ≤ 24) (h : (3329 - 2) / 2 ^ n = 0) : (invSt16 n).1 = 3303 := by
  have : ∀ n : Fin 25, (3329 - 2) / 2 ^ n.val = 0 → (invSt16 n.val).1 = 3303 := by decide +kernel
  exact this ⟨n, by omega⟩ h
theorem invSt16_go (n : Nat) (hn : n ≤ 24) (h : 0 < (3329 - 2) / 2 ^ n) : n < 24 := by
  rcases Nat.lt_or_ge n 24 with q | q
  · exact q
  · have : n = 24 := by omega
    subst this
    exact absurd h (by decide)
set_option maxHeartbeats 1000000 in
theorem inverse16_any (b : Nat) (z : Nat → Int) (sc : Int) (w : World) (hR : Rg16 w b z sc) :
    Calls Try.prog 65 #[.pointer (some ⟨b, 0, none⟩), .int .u16 128] w fun e w' => e = .returned (.int .u16 3303) ∧ w' = w := by
  have hq := hR.q
  go_enter Try.func65, Try.ntmps65
  go_wp2
  go_loopw [1, 5, 6] (fun a p e wr => ∃ n ee : Nat, n ≤ 24 ∧ a = .int .u16 ((invSt16 n).2 : Int) ∧ p = .int .u16 ((invSt16 n).1 : Int) ∧ e = .int .u16 ee ∧ Hid (ee = (3329 - 2) / 2 ^ n) ∧ wr = w) (fun _ _ e _ => (intOf e).toNat)
  case atStart => exact ⟨0, 3329 - 2, by omega, rfl, rfl, rfl, show 3329 - 2 = (3329 - 2) / 2 ^ 0 by decide, rfl⟩
  case round =>
    obtain ⟨n, ee, hn, rfl, rfl, rfl, HE, hw⟩ := hrel
    subst hw
    have hl := invSt16_lt n
    by_cases h0 : 0 < ee
    · have hlt := invSt16_go n hn (by rw [← HE.out]; exact h0)
      have HN := hid_of (show invSt16 (n + 1) = (if (3329 - 2) / 2 ^ n % 2 = 1 then (invSt16 n).1 * (invSt16 n).2 % 3329 else (invSt16 n).1, (invSt16 n).2 * (invSt16 n).2 % 3329) from rfl)
      rw [← HE.out] at HN
      generalize (invSt16 n).1 = p at *
      generalize (invSt16 n).2 = a at *
      have HT := hid_of (fun x y hx hy => times16_any b z sc x y wr hR hx hy)
      have hpl := hl.1
      have hal := hl.2
      have hee : ee ≤ 3329 := by rw [HE.out]; exact Nat.le_trans (Nat.div_le_self (3329 - 2) (2 ^ n)) (by decide)
      have c0 : (0 : Int) < (ee : Int) := by omega
      by_cases ho : ee % 2 = 1
      · have o1 : (((ee : Int) % 2) == 1) = true := by simp; omega
        go_wp2_with (first | (go_at_call 49; refine (HT.out _ _ (by assumption) (by assumption)).mono ?_; rintro _ w' ⟨rfl, hw⟩; rw [hw]; clear hw w'))
        go_roundw
        case rel =>
          rw [if_pos ho] at HN
          refine ⟨n + 1, ee / 2, by omega, by rw [HN.out]; simp, by rw [HN.out]; simp, ?_, ?_, trivial⟩
          · congr 1
          · show ee / 2 = _
            rw [Nat.pow_succ, ← Nat.div_div_eq_div_mul, ← HE.out]
        case measure => simp [intOf]; omega
      · have o1 : (((ee : Int) % 2) == 1) = false := by simp; omega
        go_wp2_with (first | (go_at_call 49; refine (HT.out _ _ (by assumption) (by assumption)).mono ?_; rintro _ w' ⟨rfl, hw⟩; rw [hw]; clear hw w'))
        go_roundw
        case rel =>
          rw [if_neg ho] at HN
          refine ⟨n + 1, ee / 2, by omega, by rw [HN.out]; simp, by rw [HN.out], ?_, ?_, trivial⟩
          · congr 1
          · show ee / 2 = _
            rw [Nat.pow_succ, ← Nat.div_div_eq_div_mul, ← HE.out]
        case measure => simp [intOf]; omega
    · have h00 : ee = 0 := by omega
      subst h00
      have he := invSt16_end n hn HE.out.symm
      rw [he]
      go_wp2
      go_ret
      exact ⟨rfl, rfl⟩
end Go.Proofs.Ytkijpphmiogbbaa
