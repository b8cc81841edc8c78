import Derived.Test.YtkijpphmiogbbaaN6
namespace Go.Proofs.Ytkijpphmiogbbaa

def yS (b : Nat) : Int := if b % 2 = 0 then zetS (64 + b / 2) else 3329 - zetS (64 + b / 2)
def prodS (F G : Nat → Int) : Nat → Int := fun j =>
  if j % 2 = 0 then (F j * G j + F (j + 1) * G (j + 1) % 3329 * yS (j / 2)) % 3329 else (F (j - 1) * G j + F j * G (j - 1)) % 3329
def prodG (F G : Nat → Int) : Nat → Int := fun j => F j * G j % 8380417
theorem scTo_range (q : Int) (hq : 0 < q) (f g : Nat → Int) : ∀ i u, 0 ≤ scTo q f g i u ∧ scTo q f g i u < q := by
  have hcell : ∀ (w : Nat → Int) (i j : Nat), (∀ u, 0 ≤ w u ∧ w u < q) → ∀ u, 0 ≤ scCell q f g w i j u ∧ scCell q f g w i j u < q := by
    intro w i j hw u
    unfold scCell
    split
    · split
      · exact ⟨Int.emod_nonneg _ (by omega), Int.emod_lt_of_pos _ hq⟩
      · exact ⟨Int.emod_nonneg _ (by omega), Int.emod_lt_of_pos _ hq⟩
    · exact hw u
  have hrow : ∀ (w : Nat → Int) (i : Nat), (∀ u, 0 ≤ w u ∧ w u < q) → ∀ j u, 0 ≤ scRow q f g w i j u ∧ scRow q f g w i j u < q := by
    intro w i hw j
    induction j with
    | zero => exact hw
    | succ j ih => exact hcell _ i j ih
  intro i
  induction i with
  | zero => exact fun _ => ⟨Int.le_refl 0, hq⟩
  | succ i ih => exact hrow _ i ih 256
theorem yS_root (b : Nat) : Cg 3329 (yS b) (rootOf zetS 7 b) := by
  rw [rootOf_succ]
  unfold yS
  by_cases h : b % 2 = 0
  · rw [if_pos h, if_pos h]; exact Cg.refl _ _
  · rw [if_neg h, if_neg h]
    exact ⟨1, by
      have : (2 : Nat) ^ 6 = 64 := by decide
      rw [this]; omega⟩
theorem conv_S (f g : Nat → Int) (j : Nat) (hj : j < 256) : prodS (fwdN 3329 zetS 7 f) (fwdN 3329 zetS 7 g) j = fwdN 3329 zetS 7 (scTo 3329 f g 256) j := by
  have hs := small_conv 3329 zetS (rootOf zetS) rootsS (fun b hb => by have := roots_top 3329 zetS 7 rootsS 7 (by omega) b hb; simpa using this) f g (j / 2) (by omega)
  have hr := fwdN_range 3329 (by omega) zetS (scTo 3329 f g 256) (fun i _ => scTo_range 3329 (by omega) f g 256 i) 7 j hj
  unfold prodS
  by_cases h : j % 2 = 0
  · have e : 2 * (j / 2) = j := by omega
    rw [e] at hs
    rw [if_pos h]
    refine Cg.eq ((cg_mod _ _).trans (Cg.trans ?_ hs.1)) (Int.emod_nonneg _ (by omega)) (Int.emod_lt_of_pos _ (by omega)) hr.1 hr.2
    refine (Cg.refl _ _).add (((cg_mod _ _).mul (yS_root (j / 2))).trans (.of_eq (Int.mul_comm _ _)))
  · have e : 2 * (j / 2) = j - 1 := by omega
    have e2 : j - 1 + 1 = j := by omega
    rw [e, e2] at hs
    rw [if_neg h]
    exact Cg.eq ((cg_mod _ _).trans hs.2) (Int.emod_nonneg _ (by omega)) (Int.emod_lt_of_pos _ (by omega)) hr.1 hr.2
theorem conv_G (f g : Nat → Int) (j : Nat) (hj : j < 256) : prodG (fwdN 8380417 zetG 8 f) (fwdN 8380417 zetG 8 g) j = fwdN 8380417 zetG 8 (scTo 8380417 f g 256) j := by
  have hs := great_conv 8380417 zetG (rootOf zetG) rootsG (fun b hb => by have := roots_top 8380417 zetG 8 rootsG 8 (by omega) b hb; simpa using this) f g j hj
  have hr := fwdN_range 8380417 (by omega) zetG (scTo 8380417 f g 256) (fun i _ => scTo_range 8380417 (by omega) f g 256 i) 8 j hj
  exact Cg.eq ((cg_mod _ _).trans hs) (Int.emod_nonneg _ (by omega)) (Int.emod_lt_of_pos _ (by omega)) hr.1 hr.2
/-- The first P pairs are multiplied. -/
def pairTo (F G : Nat → Int) (P : Nat) : Nat → Int := fun j => if j / 2 < P then prodS F G j else F j
theorem pairTo_step (F G : Nat → Int) (P j : Nat) : upd (upd (pairTo F G P) (2 * P) (prodS F G (2 * P))) (2 * P + 1) (prodS F G (2 * P + 1)) j = pairTo F G (P + 1) j := by
  unfold upd pairTo
  by_cases h1 : j = 2 * P + 1
  · rw [if_pos h1, h1, if_pos (by omega)]
  · rw [if_neg h1]
    by_cases h2 : j = 2 * P
    · rw [if_pos h2, h2, if_pos (by omega)]
    · rw [if_neg h2]
      by_cases h3 : j / 2 < P
      · rw [if_pos h3, if_pos (by omega)]
      · rw [if_neg h3, if_neg (by omega)]
theorem pairTo_at (F G : Nat → Int) (P : Nat) : pairTo F G P (2 * P) = F (2 * P) ∧ pairTo F G P (2 * P + 1) = F (2 * P + 1) := by
  unfold pairTo
  exact ⟨if_neg (by omega), if_neg (by omega)⟩
theorem prodS_range (F G : Nat → Int) (j : Nat) : 0 ≤ prodS F G j ∧ prodS F G j < 3329 := by
  unfold prodS
  split
  · exact ⟨Int.emod_nonneg _ (by omega), Int.emod_lt_of_pos _ (by omega)⟩
  · exact ⟨Int.emod_nonneg _ (by omega), Int.emod_lt_of_pos _ (by omega)⟩
theorem yS_range (b : Nat) (h : b < 128) : 0 ≤ yS b ∧ yS b < 3329 := by
  have : ∀ b : Fin 128, 0 ≤ yS b.val ∧ yS b.val < 3329 := by decide +kernel
  exact this ⟨b, h⟩
end Go.Proofs.Ytkijpphmiogbbaa
