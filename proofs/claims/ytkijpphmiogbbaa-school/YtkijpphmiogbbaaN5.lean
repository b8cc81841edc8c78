import Derived.Test.YtkijpphmiogbbaaN4
namespace Go.Proofs.Ytkijpphmiogbbaa
/-- A layer, the first s butterflies done. -/
def layITo (q : Int) (z : Nat → Int) (h k : Nat) (M : Nat → Int) (s : Nat) : Nat → Int := fun j => if j / (2 * h) * h + j % (2 * h) % h < s then layI q z h k M j else M j
theorem layITo_zero (q : Int) (z : Nat → Int) (h k : Nat) (M : Nat → Int) (j : Nat) : layITo q z h k M 0 j = M j := by unfold layITo; rw [if_neg (by omega)]
theorem layITo_all (q : Int) (z : Nat → Int) (h k : Nat) (M : Nat → Int) (hk : 2 * h * k = 256) (h0 : 0 < h) (j : Nat) (hj : j < 256) : layITo q z h k M (k * h) j = layI q z h k M j := by
  unfold layITo
  rw [if_pos]
  have hb := blk_lt hk hj
  have hr := Nat.mod_lt (j % (2 * h)) h0
  have : (j / (2 * h) + 1) * h ≤ k * h := Nat.mul_le_mul_right _ hb
  rw [Nat.succ_mul] at this
  omega
theorem layITo_step (q : Int) (z : Nat → Int) (h k : Nat) (M : Nat → Int) (c t : Nat) (ht : t < h) (j : Nat) :
    upd (upd (layITo q z h k M (c * h + t)) (2 * h * c + t) (layI q z h k M (2 * h * c + t))) (2 * h * c + t + h) (layI q z h k M (2 * h * c + t + h)) j = layITo q z h k M (c * h + (t + 1)) j := by
  have hf := fly_at h c t ht
  have i1 : (2 * h * c + t) / (2 * h) * h + (2 * h * c + t) % (2 * h) % h = c * h + t := by rw [hf.1, hf.2.1, Nat.mod_eq_of_lt ht]
  have i2 : (2 * h * c + t + h) / (2 * h) * h + (2 * h * c + t + h) % (2 * h) % h = c * h + t := by rw [hf.2.2.1, hf.2.2.2, Nat.add_mod_right, Nat.mod_eq_of_lt ht]
  unfold upd layITo
  by_cases e2 : j = 2 * h * c + t + h
  · rw [if_pos e2, e2, if_pos (by rw [i2]; omega)]
  · rw [if_neg e2]
    by_cases e1 : j = 2 * h * c + t
    · rw [if_pos e1, e1, if_pos (by rw [i1]; omega)]
    · rw [if_neg e1]
      have ne : j / (2 * h) * h + j % (2 * h) % h ≠ c * h + t := fun e => by rcases fly_only h c t j ht e with x | x <;> omega
      by_cases hc : j / (2 * h) * h + j % (2 * h) % h < c * h + t
      · rw [if_pos hc, if_pos (by omega)]
      · rw [if_neg hc, if_neg (by omega)]
theorem layITo_at (q : Int) (z : Nat → Int) (h k : Nat) (M : Nat → Int) (c t : Nat) (ht : t < h) : layITo q z h k M (c * h + t) (2 * h * c + t) = M (2 * h * c + t) ∧ layITo q z h k M (c * h + t) (2 * h * c + t + h) = M (2 * h * c + t + h) := by
  have hf := fly_at h c t ht
  unfold layITo
  rw [hf.1, hf.2.1, hf.2.2.1, hf.2.2.2, Nat.mod_eq_of_lt ht, Nat.add_mod_right, Nat.mod_eq_of_lt ht]
  exact ⟨if_neg (by omega), if_neg (by omega)⟩
theorem layI_range (q : Int) (hq : 0 < q) (z : Nat → Int) (h k : Nat) (L : Nat → Int) (i : Nat) : 0 ≤ layI q z h k L i ∧ layI q z h k L i < q := by
  unfold layI
  split
  · exact ⟨Int.emod_nonneg _ (by omega), Int.emod_lt_of_pos _ hq⟩
  · exact ⟨Int.emod_nonneg _ (by omega), Int.emod_lt_of_pos _ hq⟩
theorem layI_lo (q : Int) (z : Nat → Int) (h k : Nat) (M : Nat → Int) (c t : Nat) (ht : t < h) : layI q z h k M (2 * h * c + t) = (M (2 * h * c + t) + M (2 * h * c + t + h)) % q := by
  have hf := fly_at h c t ht
  unfold layI
  rw [hf.2.1, if_pos ht]
theorem layI_hi (q : Int) (z : Nat → Int) (h k : Nat) (M : Nat → Int) (c t : Nat) (ht : t < h) : layI q z h k M (2 * h * c + t + h) = (z (2 * k - 1 - c) * ((M (2 * h * c + t + h) - M (2 * h * c + t)) % q)) % q := by
  have hf := fly_at h c t ht
  unfold layI
  rw [hf.2.2.1, hf.2.2.2, if_neg (by omega), Nat.add_sub_cancel]
  exact (Cg.mul (Cg.refl _ _) (cg_mod _ _)).symm.mod_eq
end Go.Proofs.Ytkijpphmiogbbaa
