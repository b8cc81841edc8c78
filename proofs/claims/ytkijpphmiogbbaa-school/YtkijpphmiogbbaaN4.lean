import Derived.Test.YtkijpphmiogbbaaN2
import Derived.Test.YtkijpphmiogbbaaBase
namespace Go.Proofs.Ytkijpphmiogbbaa

theorem layF_range (q : Int) (hq : 0 < q) (z : Nat → Int) (h k : Nat) (L : Nat → Int) (i : Nat) : 0 ≤ layF q z h k L i ∧ layF q z h k L i < q := by
  unfold layF
  split
  · exact ⟨Int.emod_nonneg _ (by omega), Int.emod_lt_of_pos _ hq⟩
  · exact ⟨Int.emod_nonneg _ (by omega), Int.emod_lt_of_pos _ hq⟩
theorem fwdN_range (q : Int) (hq : 0 < q) (z : Nat → Int) (L : Nat → Int) (hL : ∀ i, i < 256 → 0 ≤ L i ∧ L i < q) : ∀ l i, i < 256 → 0 ≤ fwdN q z l L i ∧ fwdN q z l L i < q
  | 0, i, hi => hL i hi
  | _ + 1, i, _ => layF_range q hq z _ _ _ i
/-- A layer, the first s butterflies done. -/
def layTo (q : Int) (z : Nat → Int) (h k : Nat) (M : Nat → Int) (s : Nat) : Nat → Int := fun j => if j / (2 * h) * h + j % (2 * h) % h < s then layF q z h k M j else M j
theorem layTo_zero (q : Int) (z : Nat → Int) (h k : Nat) (M : Nat → Int) (j : Nat) : layTo q z h k M 0 j = M j := by unfold layTo; rw [if_neg (by omega)]
theorem layTo_all (q : Int) (z : Nat → Int) (h k : Nat) (M : Nat → Int) (hk : 2 * h * k = 256) (h0 : 0 < h) (j : Nat) (hj : j < 256) : layTo q z h k M (k * h) j = layF q z h k M j := by
  unfold layTo
  rw [if_pos]
  have hb := blk_lt hk hj
  have hr := Nat.mod_lt (j % (2 * h)) h0
  have : (j / (2 * h) + 1) * h ≤ k * h := Nat.mul_le_mul_right _ hb
  rw [Nat.succ_mul] at this
  omega
/-- Where butterfly t of block c lies. -/
theorem fly_at (h c t : Nat) (ht : t < h) : (2 * h * c + t) / (2 * h) = c ∧ (2 * h * c + t) % (2 * h) = t ∧ (2 * h * c + t + h) / (2 * h) = c ∧ (2 * h * c + t + h) % (2 * h) = t + h := by
  refine ⟨?_, ?_, ?_, ?_⟩
  · rw [Nat.mul_add_div (by omega), Nat.div_eq_of_lt (by omega)]; rfl
  · rw [Nat.mul_add_mod, Nat.mod_eq_of_lt (by omega)]
  · rw [Nat.add_assoc, Nat.mul_add_div (by omega), Nat.div_eq_of_lt (a := t + h) (by omega)]; rfl
  · rw [Nat.add_assoc, Nat.mul_add_mod, Nat.mod_eq_of_lt (a := t + h) (by omega)]
theorem fly_only (h c t j : Nat) (ht : t < h) (e : j / (2 * h) * h + j % (2 * h) % h = c * h + t) : j = 2 * h * c + t ∨ j = 2 * h * c + t + h := by
  have h0 : 0 < h := by omega
  have hr := Nat.mod_lt (j % (2 * h)) h0
  have e1 : j / (2 * h) = c := by
    have a1 : (j / (2 * h) * h + j % (2 * h) % h) / h = (c * h + t) / h := by rw [e]
    rw [Nat.mul_comm _ h, Nat.mul_add_div h0, Nat.div_eq_of_lt hr, Nat.mul_comm c h, Nat.mul_add_div h0, Nat.div_eq_of_lt ht] at a1
    omega
  have e2 : j % (2 * h) % h = t := by rw [e1] at e; omega
  have hj := Nat.div_add_mod j (2 * h)
  have hm := Nat.mod_lt j (show 0 < 2 * h by omega)
  rw [e1] at hj
  by_cases hc : j % (2 * h) < h
  · rw [Nat.mod_eq_of_lt hc] at e2; left; omega
  · have : j % (2 * h) % h = j % (2 * h) - h := by
      rw [Nat.mod_eq_sub_mod (by omega), Nat.mod_eq_of_lt (by omega)]
    right; omega
theorem layTo_step (q : Int) (z : Nat → Int) (h k : Nat) (M : Nat → Int) (c t : Nat) (ht : t < h) (j : Nat) :
    upd (upd (layTo q z h k M (c * h + t)) (2 * h * c + t) (layF q z h k M (2 * h * c + t))) (2 * h * c + t + h) (layF q z h k M (2 * h * c + t + h)) j = layTo q z h k M (c * h + (t + 1)) j := by
  have hf := fly_at h c t ht
  have i1 : (2 * h * c + t) / (2 * h) * h + (2 * h * c + t) % (2 * h) % h = c * h + t := by rw [hf.1, hf.2.1, Nat.mod_eq_of_lt ht]
  have i2 : (2 * h * c + t + h) / (2 * h) * h + (2 * h * c + t + h) % (2 * h) % h = c * h + t := by rw [hf.2.2.1, hf.2.2.2, Nat.add_mod_right, Nat.mod_eq_of_lt ht]
  unfold upd layTo
  by_cases e2 : j = 2 * h * c + t + h
  · rw [if_pos e2, e2, if_pos (by rw [i2]; omega)]
  · rw [if_neg e2]
    by_cases e1 : j = 2 * h * c + t
    · rw [if_pos e1, e1, if_pos (by rw [i1]; omega)]
    · rw [if_neg e1]
      have ne : j / (2 * h) * h + j % (2 * h) % h ≠ c * h + t := fun e => by rcases fly_only h c t j ht e with x | x <;> omega
      by_cases hc : j / (2 * h) * h + j % (2 * h) % h < c * h + t
      · rw [if_pos hc, if_pos (by omega)]
      · rw [if_neg hc, if_neg (by omega)]
theorem layTo_at (q : Int) (z : Nat → Int) (h k : Nat) (M : Nat → Int) (c t : Nat) (ht : t < h) : layTo q z h k M (c * h + t) (2 * h * c + t) = M (2 * h * c + t) ∧ layTo q z h k M (c * h + t) (2 * h * c + t + h) = M (2 * h * c + t + h) := by
  have hf := fly_at h c t ht
  unfold layTo
  rw [hf.1, hf.2.1, hf.2.2.1, hf.2.2.2, Nat.mod_eq_of_lt ht, Nat.add_mod_right, Nat.mod_eq_of_lt ht]
  exact ⟨if_neg (by omega), if_neg (by omega)⟩
theorem layF_lo (q : Int) (z : Nat → Int) (h k : Nat) (M : Nat → Int) (c t : Nat) (ht : t < h) : layF q z h k M (2 * h * c + t) = (M (2 * h * c + t) + z (k + c) * M (2 * h * c + t + h) % q) % q := by
  have hf := fly_at h c t ht
  unfold layF
  rw [hf.1, hf.2.1, if_pos ht]
  exact (Cg.add (Cg.refl _ _) (cg_mod _ _)).symm.mod_eq
theorem layF_hi (q : Int) (z : Nat → Int) (h k : Nat) (M : Nat → Int) (c t : Nat) (ht : t < h) : layF q z h k M (2 * h * c + t + h) = (M (2 * h * c + t) - z (k + c) * M (2 * h * c + t + h) % q) % q := by
  have hf := fly_at h c t ht
  unfold layF
  rw [hf.2.2.1, hf.2.2.2, if_neg (by omega), Nat.add_sub_cancel]
  exact (Cg.sub (Cg.refl _ _) (cg_mod _ _)).symm.mod_eq
theorem lay_nums16 (l : Nat) (hl : l < 7) : ∃ h k : Nat, 2 * h * k = 256 ∧ 0 < h ∧ k ≤ 128 ∧ 128 / 2 ^ l = h ∧ 2 ^ l = k ∧ 2 ≤ h ∧ h ≤ 128 := by
  have : ∀ l : Fin 7, 2 * (128 / 2 ^ l.val) * 2 ^ l.val = 256 ∧ 0 < 128 / 2 ^ l.val ∧ 2 ^ l.val ≤ 128 ∧ 2 ≤ 128 / 2 ^ l.val ∧ 128 / 2 ^ l.val ≤ 128 := by decide
  have := this ⟨l, hl⟩
  exact ⟨_, _, this.1, this.2.1, this.2.2.1, rfl, rfl, this.2.2.2.1, this.2.2.2.2⟩
theorem lay_nums32 (l : Nat) (hl : l < 8) : ∃ h k : Nat, 2 * h * k = 256 ∧ 0 < h ∧ k ≤ 128 ∧ 128 / 2 ^ l = h ∧ 2 ^ l = k ∧ 1 ≤ h ∧ h ≤ 128 := by
  have : ∀ l : Fin 8, 2 * (128 / 2 ^ l.val) * 2 ^ l.val = 256 ∧ 0 < 128 / 2 ^ l.val ∧ 2 ^ l.val ≤ 128 ∧ 1 ≤ 128 / 2 ^ l.val ∧ 128 / 2 ^ l.val ≤ 128 := by decide
  have := this ⟨l, hl⟩
  exact ⟨_, _, this.1, this.2.1, this.2.2.1, rfl, rfl, this.2.2.2.1, this.2.2.2.2⟩
end Go.Proofs.Ytkijpphmiogbbaa
