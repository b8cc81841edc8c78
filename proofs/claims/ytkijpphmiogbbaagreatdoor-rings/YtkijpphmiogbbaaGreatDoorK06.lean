import Derived.Test.YtkijpphmiogbbaaGreatDoorK05
import Derived.Test.YtkijpphmiogbbaaGreatDoorK01
namespace Go.Proofs.YtkijpphmiogbbaaGreatDoor

theorem layF_range (q : Int) (hq : 0 < q) (z : Nat → Int) (h k : Nat) (L : Nat → Int) (i : Nat) : 0 ≤ layF q z h k L i ∧ layF q z h k L i < q := by
  unfold layF
  split
  · exact ⟨Int.emod_nonneg _ (by omega), Int.emod_lt_of_pos _ hq⟩
  · exact ⟨Int.emod_nonneg _ (by omega), Int.emod_lt_of_pos _ hq⟩
theorem fwdN_range (q : Int) (hq : 0 < q) (z : Nat → Int) (L : Nat → Int) (hL : ∀ i, i < 256 → 0 ≤ L i ∧ L i < q) : ∀ l i, i < 256 → 0 ≤ fwdN q z l L i ∧ fwdN q z l L i < q
  | 0, i, hi => hL i hi
  | _ + 1, i, _ => layF_range q hq z _ _ _ i
/-- A layer, the first s butterflies done. -/
def layTo (q : Int) (z : Nat → Int) (h k : Nat) (M : Nat → Int) (s : Nat) : Nat → Int := fun j => if j / (2 * h) * h + j % (2 * h) % h < s then layF q z h k M j else M j
theorem layTo_zero (q : Int) (z : Nat → Int) (h k : Nat) (M : Nat → Int) (j : Nat) : layTo q z h k M 0 j = M j := by unfold layTo; rw [if_neg (by omega)]
theorem layTo_all (q : Int) (z : Nat → Int) (h k : Nat) (M : Nat → Int) (hk : 2 * h * k = 256) (h0 : 0 < h) (j : Nat) (hj : j < 256) : layTo q z h k M (k * h) j = layF q z h k M j := by
  unfold layTo
  rw [if_pos]
  have hb := blk_lt hk hj
  have hr := Nat.mod_lt (j % (2 * h)) h0
  have : (j / (2 * h) + 1) * h ≤ k * h := Nat.mul_le_mul_right _ hb
  rw [Nat.succ_mul] at this
  omega
/-- Where butterfly t of block c lies. -/
theorem fly_at (h c t : Nat) (ht : t < h) : (2 * h * c + t) / (2 * h) = c ∧ (2 * h * c + t) % (2 * h) = t ∧ (2 * h * c + t + h) / (2 * h) = c ∧ (2 * h * c + t + h) % (2 * h) = t + h := by
  refine ⟨?_, ?_, ?_, ?_⟩
  · rw [Nat.mul_add_div (by omega), Nat.div_eq_of_lt (by omega)]; rfl
  · rw [Nat.mul_add_mod, Nat.mod_eq_of_lt (by omega)]
  · rw [Nat.add_assoc, Nat.mul_add_div (by omega), Nat.div_eq_of_lt (a := t + h) (by omega)]; rfl
  · rw [Nat.add_assoc, Nat.mul_add_mod, Nat.mod_eq_of_lt (a := t + h) (by omega)]
theorem fly_only (h c t j : Nat) (ht : t < h) (e : j / (2 * h) * h + j % (2 * h) % h = c * h + t) : j = 2 * h * c + t ∨ j = 2 * h * c + t + h := by
  have h0 : 0 < h := by omega
  have hr := Nat.mod_lt (j % (2 * h)) h0
  have e1 : j / (2 * h) = c := by
    have a1 : (j / (2 * h) * h + j % (2 * h) % h) / h = (c * h + t) / h := by rw [e]
    rw [Nat.mul_comm _ h, Nat.mul_add_div h0, Nat.div_eq_of_lt hr, Nat.mul_comm c h, Nat.mul_add_div h0, Nat.div_eq_of_lt ht] at a1
    omega
  have e2 : j % (2 * h) % h = t := by rw [e1] at e; omega
  have hj := Nat.div_add_mod j (2 * h)
  have hm := Nat.mod_lt j (show 0 < 2 * h by omega)
  rw [e1] at hj
  by_cases hc : j % (2 * h) < h
  · rw [Nat.mod_eq_of_lt hc] at e2; left; omega
  · have : j % (2 * h) % h = j % (2 * h) - h := by
      rw [Nat.mod_eq_sub_mod (by omega), Nat.mod_eq_of_lt (by omega)]
    right; omega
theorem layTo_step (q : Int) (z : Nat → Int) (h k : Nat) (M : Nat → Int) (c t : Nat) (ht : t < h) (j : Nat) :
    upd (upd (layTo q z h k M (c * h + t)) (2 * h * c + t) (layF q z h k M (2 * h * c + t))) (2 * h * c + t + h) (layF q z h k M (2 * h * c + t + h)) j = layTo q z h k M (c * h + (t + 1)) j := by
  have hf := fly_at h c t ht
  have i1 : (2 * h * c + t) / (2 * h) * h + (2 * h * c + t) % (2 * h) % h = c * h + t := by rw [hf.1, hf.2.1, Nat.mod_eq_of_lt ht]
  have i2 : (2 * h * c + t + h) / (2 * h) * h + (2 * h * c + t + h) % (2 * h) % h = c * h + t := by rw [hf.2.2.1, hf.2.2.2, Nat.add_mod_right, Nat.mod_eq_of_lt ht]
  unfold upd layTo
  by_cases e2 : j = 2 * h * c + t + h
  · rw [if_pos e2, e2, if_pos (by rw [i2]; omega)]
  · rw [if_neg e2]
    by_cases e1 : j = 2 * h * c + t
    · rw [if_pos e1, e1, if_pos (by rw [i1]; omega)]
    · rw [if_neg e1]
      have ne : j / (2 * h) * h + j % (2 * h) % h ≠ c * h + t := fun e => by rcases fly_only h c t j ht e with x | x <;> omega
      by_cases hc : j / (2 * h) * h + j % (2 * h) % h < c * h + t
      · rw [if_pos hc, if_pos (by omega)]
      · rw [if_neg hc, if_neg (by omega)]
theorem layTo_at (q : Int) (z : Nat → Int) (h k : Nat) (M : Nat → Int) (c t : Nat) (ht : t < h) : layTo q z h k M (c * h + t) (2 * h * c + t) = M (2 * h * c + t) ∧ layTo q z h k M (c * h + t) (2 * h * c + t + h) = M (2 * h * c + t + h) := by
  have hf := fly_at h c t ht
  unfold layTo
  rw [hf.1, hf.2.1, hf.2.2.1, hf.2.2.2, Nat.mod_eq_of_lt ht, Nat.add_mod_right, Nat.mod_eq_of_lt ht]
  exact ⟨if_neg (by omega), if_neg (by omega)⟩
theorem layF_lo (q : Int) (z : Nat → Int) (h k : Nat) (M : Nat → Int) (c t : Nat) (ht : t < h) : layF q z h k M (2 * h * c + t) = (M (2 * h * c + t) + z (k + c) * M (2 * h * c + t + h) % q) % q := by
  have hf := fly_at h c t ht
  unfold layF
  rw [hf.1, hf.2.1, if_pos ht]
  exact (Cg.add (Cg.refl _ _) (cg_mod _ _)).symm.mod_eq
theorem layF_hi (q : Int) (z : Nat → Int) (h k : Nat) (M : Nat → Int) (c t : Nat) (ht : t < h) : layF q z h k M (2 * h * c + t + h) = (M (2 * h * c + t) - z (k + c) * M (2 * h * c + t + h) % q) % q := by
  have hf := fly_at h c t ht
  unfold layF
  rw [hf.2.2.1, hf.2.2.2, if_neg (by omega), Nat.add_sub_cancel]
  exact (Cg.sub (Cg.refl _ _) (cg_mod _ _)).symm.mod_eq
theorem lay_nums16 (l : Nat) (hl : l < 7) : ∃ h k : Nat, 2 * h * k = 256 ∧ 0 < h ∧ k ≤ 128 ∧ 128 / 2 ^ l = h ∧ 2 ^ l = k ∧ 2 ≤ h ∧ h ≤ 128 := by
  have : ∀ l : Fin 7, 2 * (128 / 2 ^ l.val) * 2 ^ l.val = 256 ∧ 0 < 128 / 2 ^ l.val ∧ 2 ^ l.val ≤ 128 ∧ 2 ≤ 128 / 2 ^ l.val ∧ 128 / 2 ^ l.val ≤ 128 := by decide
  have := this ⟨l, hl⟩
  exact ⟨_, _, this.1, this.2.1, this.2.2.1, rfl, rfl, this.2.2.2.1, this.2.2.2.2⟩
theorem lay_nums32 (l : Nat) (hl : l < 8) : ∃ h k : Nat, 2 * h * k = 256 ∧ 0 < h ∧ k ≤ 128 ∧ 128 / 2 ^ l = h ∧ 2 ^ l = k ∧ 1 ≤ h ∧ h ≤ 128 := by
  have : ∀ l : Fin 8, 2 * (128 / 2 ^ l.val) * 2 ^ l.val = 256 ∧ 0 < 128 / 2 ^ l.val ∧ 2 ^ l.val ≤ 128 ∧ 1 ≤ 128 / 2 ^ l.val ∧ 128 / 2 ^ l.val ≤ 128 := by decide
  have := this ⟨l, hl⟩
  exact ⟨_, _, this.1, this.2.1, this.2.2.1, rfl, rfl, this.2.2.2.1, this.2.2.2.2⟩
end Go.Proofs.YtkijpphmiogbbaaGreatDoor

namespace Go.Proofs.YtkijpphmiogbbaaGreatDoor

theorem undo1_16 (L : Nat → Int) (hL : ∀ i, i < 256 → 0 ≤ L i ∧ L i < 3329) (i : Nat) (hi : i < 256) : invN 3329 zetS 7 (fwdN 3329 zetS 7 L) i * 3303 % 3329 = L i := by
  have h := inv_fwd 3329 zetS 7 L (by omega) (fun l hl => matesS l hl) i hi
  have h2 : Cg 3329 (invN 3329 zetS 7 (fwdN 3329 zetS 7 L) i * 3303) (L i) := by
    refine (h.mul (Cg.refl _ 3303)).trans ?_
    exact ⟨(2 ^ 7 * 3303 - 1) / 3329 * L i, by
      have e : ((2 : Int) ^ 7 * 3303 - 1) / 3329 = 127 := by decide
      rw [e]
      have e2 : (2 : Int) ^ 7 = 128 := by decide
      rw [e2]
      omega⟩
  exact ((cg_mod _ _).trans h2).eq (Int.emod_nonneg _ (by omega)) (Int.emod_lt_of_pos _ (by omega)) (hL i hi).1 (hL i hi).2
theorem undo2_16 (L : Nat → Int) (hL : ∀ i, i < 256 → 0 ≤ L i ∧ L i < 3329) (i : Nat) (hi : i < 256) : fwdN 3329 zetS 7 (fun i => invN 3329 zetS 7 L i * 3303 % 3329) i = L i := by
  have h1 := fwdN_lin 3329 3303 zetS 7 (invN 3329 zetS 7 L) (fun i => invN 3329 zetS 7 L i * 3303 % 3329) (by omega) (fun j _ => (cg_mod _ _).trans (.of_eq (Int.mul_comm _ _))) i hi
  have h := fwd_inv 3329 zetS 7 L (by omega) (fun l hl => matesS l hl) i hi
  have h2 : Cg 3329 (3303 * fwdN 3329 zetS 7 (invN 3329 zetS 7 L) i) (L i) := by
    refine ((Cg.refl _ 3303).mul h).trans ?_
    exact ⟨127 * L i, by
      have e2 : (2 : Int) ^ 7 = 128 := by decide
      rw [e2]
      omega⟩
  have hr := fwdN_range 3329 (by omega) zetS (fun i => invN 3329 zetS 7 L i * 3303 % 3329) (fun j _ => ⟨Int.emod_nonneg _ (by omega), Int.emod_lt_of_pos _ (by omega)⟩) 7 i hi
  exact (h1.trans h2).eq hr.1 hr.2 (hL i hi).1 (hL i hi).2

theorem undo1_32 (L : Nat → Int) (hL : ∀ i, i < 256 → 0 ≤ L i ∧ L i < 8380417) (i : Nat) (hi : i < 256) : invN 8380417 zetG 8 (fwdN 8380417 zetG 8 L) i * 8347681 % 8380417 = L i := by
  have h := inv_fwd 8380417 zetG 8 L (by omega) (fun l hl => matesG l hl) i hi
  have h2 : Cg 8380417 (invN 8380417 zetG 8 (fwdN 8380417 zetG 8 L) i * 8347681) (L i) := by
    refine (h.mul (Cg.refl _ 8347681)).trans ?_
    exact ⟨(2 ^ 8 * 8347681 - 1) / 8380417 * L i, by
      have e : ((2 : Int) ^ 8 * 8347681 - 1) / 8380417 = 255 := by decide
      rw [e]
      have e2 : (2 : Int) ^ 8 = 256 := by decide
      rw [e2]
      omega⟩
  exact ((cg_mod _ _).trans h2).eq (Int.emod_nonneg _ (by omega)) (Int.emod_lt_of_pos _ (by omega)) (hL i hi).1 (hL i hi).2
theorem undo2_32 (L : Nat → Int) (hL : ∀ i, i < 256 → 0 ≤ L i ∧ L i < 8380417) (i : Nat) (hi : i < 256) : fwdN 8380417 zetG 8 (fun i => invN 8380417 zetG 8 L i * 8347681 % 8380417) i = L i := by
  have h1 := fwdN_lin 8380417 8347681 zetG 8 (invN 8380417 zetG 8 L) (fun i => invN 8380417 zetG 8 L i * 8347681 % 8380417) (by omega) (fun j _ => (cg_mod _ _).trans (.of_eq (Int.mul_comm _ _))) i hi
  have h := fwd_inv 8380417 zetG 8 L (by omega) (fun l hl => matesG l hl) i hi
  have h2 : Cg 8380417 (8347681 * fwdN 8380417 zetG 8 (invN 8380417 zetG 8 L) i) (L i) := by
    refine ((Cg.refl _ 8347681).mul h).trans ?_
    exact ⟨255 * L i, by
      have e2 : (2 : Int) ^ 8 = 256 := by decide
      rw [e2]
      omega⟩
  have hr := fwdN_range 8380417 (by omega) zetG (fun i => invN 8380417 zetG 8 L i * 8347681 % 8380417) (fun j _ => ⟨Int.emod_nonneg _ (by omega), Int.emod_lt_of_pos _ (by omega)⟩) 8 i hi
  exact (h1.trans h2).eq hr.1 hr.2 (hL i hi).1 (hL i hi).2
end Go.Proofs.YtkijpphmiogbbaaGreatDoor

namespace Go.Proofs.YtkijpphmiogbbaaGreatDoor

def yS (b : Nat) : Int := if b % 2 = 0 then zetS (64 + b / 2) else 3329 - zetS (64 + b / 2)
def prodS (F G : Nat → Int) : Nat → Int := fun j =>
  if j % 2 = 0 then (F j * G j + F (j + 1) * G (j + 1) % 3329 * yS (j / 2)) % 3329 else (F (j - 1) * G j + F j * G (j - 1)) % 3329
def prodG (F G : Nat → Int) : Nat → Int := fun j => F j * G j % 8380417
theorem scTo_range (q : Int) (hq : 0 < q) (f g : Nat → Int) : ∀ i u, 0 ≤ scTo q f g i u ∧ scTo q f g i u < q := by
  have hcell : ∀ (w : Nat → Int) (i j : Nat), (∀ u, 0 ≤ w u ∧ w u < q) → ∀ u, 0 ≤ scCell q f g w i j u ∧ scCell q f g w i j u < q := by
    intro w i j hw u
    unfold scCell
    split
    · split
      · exact ⟨Int.emod_nonneg _ (by omega), Int.emod_lt_of_pos _ hq⟩
      · exact ⟨Int.emod_nonneg _ (by omega), Int.emod_lt_of_pos _ hq⟩
    · exact hw u
  have hrow : ∀ (w : Nat → Int) (i : Nat), (∀ u, 0 ≤ w u ∧ w u < q) → ∀ j u, 0 ≤ scRow q f g w i j u ∧ scRow q f g w i j u < q := by
    intro w i hw j
    induction j with
    | zero => exact hw
    | succ j ih => exact hcell _ i j ih
  intro i
  induction i with
  | zero => exact fun _ => ⟨Int.le_refl 0, hq⟩
  | succ i ih => exact hrow _ i ih 256
theorem yS_root (b : Nat) : Cg 3329 (yS b) (rootOf zetS 7 b) := by
  rw [rootOf_succ]
  unfold yS
  by_cases h : b % 2 = 0
  · rw [if_pos h, if_pos h]; exact Cg.refl _ _
  · rw [if_neg h, if_neg h]
    exact ⟨1, by
      have : (2 : Nat) ^ 6 = 64 := by decide
      rw [this]; omega⟩
theorem conv_S (f g : Nat → Int) (j : Nat) (hj : j < 256) : prodS (fwdN 3329 zetS 7 f) (fwdN 3329 zetS 7 g) j = fwdN 3329 zetS 7 (scTo 3329 f g 256) j := by
  have hs := small_conv 3329 zetS (rootOf zetS) rootsS (fun b hb => by have := roots_top 3329 zetS 7 rootsS 7 (by omega) b hb; simpa using this) f g (j / 2) (by omega)
  have hr := fwdN_range 3329 (by omega) zetS (scTo 3329 f g 256) (fun i _ => scTo_range 3329 (by omega) f g 256 i) 7 j hj
  unfold prodS
  by_cases h : j % 2 = 0
  · have e : 2 * (j / 2) = j := by omega
    rw [e] at hs
    rw [if_pos h]
    refine Cg.eq ((cg_mod _ _).trans (Cg.trans ?_ hs.1)) (Int.emod_nonneg _ (by omega)) (Int.emod_lt_of_pos _ (by omega)) hr.1 hr.2
    refine (Cg.refl _ _).add (((cg_mod _ _).mul (yS_root (j / 2))).trans (.of_eq (Int.mul_comm _ _)))
  · have e : 2 * (j / 2) = j - 1 := by omega
    have e2 : j - 1 + 1 = j := by omega
    rw [e, e2] at hs
    rw [if_neg h]
    exact Cg.eq ((cg_mod _ _).trans hs.2) (Int.emod_nonneg _ (by omega)) (Int.emod_lt_of_pos _ (by omega)) hr.1 hr.2
theorem conv_G (f g : Nat → Int) (j : Nat) (hj : j < 256) : prodG (fwdN 8380417 zetG 8 f) (fwdN 8380417 zetG 8 g) j = fwdN 8380417 zetG 8 (scTo 8380417 f g 256) j := by
  have hs := great_conv 8380417 zetG (rootOf zetG) rootsG (fun b hb => by have := roots_top 8380417 zetG 8 rootsG 8 (by omega) b hb; simpa using this) f g j hj
  have hr := fwdN_range 8380417 (by omega) zetG (scTo 8380417 f g 256) (fun i _ => scTo_range 8380417 (by omega) f g 256 i) 8 j hj
  exact Cg.eq ((cg_mod _ _).trans hs) (Int.emod_nonneg _ (by omega)) (Int.emod_lt_of_pos _ (by omega)) hr.1 hr.2
/-- The first P pairs are multiplied. -/
def pairTo (F G : Nat → Int) (P : Nat) : Nat → Int := fun j => if j / 2 < P then prodS F G j else F j
theorem pairTo_step (F G : Nat → Int) (P j : Nat) : upd (upd (pairTo F G P) (2 * P) (prodS F G (2 * P))) (2 * P + 1) (prodS F G (2 * P + 1)) j = pairTo F G (P + 1) j := by
  unfold upd pairTo
  by_cases h1 : j = 2 * P + 1
  · rw [if_pos h1, h1, if_pos (by omega)]
  · rw [if_neg h1]
    by_cases h2 : j = 2 * P
    · rw [if_pos h2, h2, if_pos (by omega)]
    · rw [if_neg h2]
      by_cases h3 : j / 2 < P
      · rw [if_pos h3, if_pos (by omega)]
      · rw [if_neg h3, if_neg (by omega)]
theorem pairTo_at (F G : Nat → Int) (P : Nat) : pairTo F G P (2 * P) = F (2 * P) ∧ pairTo F G P (2 * P + 1) = F (2 * P + 1) := by
  unfold pairTo
  exact ⟨if_neg (by omega), if_neg (by omega)⟩
theorem prodS_range (F G : Nat → Int) (j : Nat) : 0 ≤ prodS F G j ∧ prodS F G j < 3329 := by
  unfold prodS
  split
  · exact ⟨Int.emod_nonneg _ (by omega), Int.emod_lt_of_pos _ (by omega)⟩
  · exact ⟨Int.emod_nonneg _ (by omega), Int.emod_lt_of_pos _ (by omega)⟩
theorem yS_range (b : Nat) (h : b < 128) : 0 ≤ yS b ∧ yS b < 3329 := by
  have : ∀ b : Fin 128, 0 ≤ yS b.val ∧ yS b.val < 3329 := by decide +kernel
  exact this ⟨b, h⟩
end Go.Proofs.YtkijpphmiogbbaaGreatDoor
