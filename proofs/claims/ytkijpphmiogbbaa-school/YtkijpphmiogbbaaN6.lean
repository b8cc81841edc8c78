import Derived.Test.YtkijpphmiogbbaaN4
namespace Go.Proofs.Ytkijpphmiogbbaa

theorem undo1_16 (L : Nat → Int) (hL : ∀ i, i < 256 → 0 ≤ L i ∧ L i < 3329) (i : Nat) (hi : i < 256) : invN 3329 zetS 7 (fwdN 3329 zetS 7 L) i * 3303 % 3329 = L i := by
  have h := inv_fwd 3329 zetS 7 L (by omega) (fun l hl => matesS l hl) i hi
  have h2 : Cg 3329 (invN 3329 zetS 7 (fwdN 3329 zetS 7 L) i * 3303) (L i) := by
    refine (h.mul (Cg.refl _ 3303)).trans ?_
    exact ⟨(2 ^ 7 * 3303 - 1) / 3329 * L i, by
      have e : ((2 : Int) ^ 7 * 3303 - 1) / 3329 = 127 := by decide
      rw [e]
      have e2 : (2 : Int) ^ 7 = 128 := by decide
      rw [e2]
      omega⟩
  exact ((cg_mod _ _).trans h2).eq (Int.emod_nonneg _ (by omega)) (Int.emod_lt_of_pos _ (by omega)) (hL i hi).1 (hL i hi).2
theorem undo2_16 (L : Nat → Int) (hL : ∀ i, i < 256 → 0 ≤ L i ∧ L i < 3329) (i : Nat) (hi : i < 256) : fwdN 3329 zetS 7 (fun i => invN 3329 zetS 7 L i * 3303 % 3329) i = L i := by
  have h1 := fwdN_lin 3329 3303 zetS 7 (invN 3329 zetS 7 L) (fun i => invN 3329 zetS 7 L i * 3303 % 3329) (by omega) (fun j _ => (cg_mod _ _).trans (.of_eq (Int.mul_comm _ _))) i hi
  have h := fwd_inv 3329 zetS 7 L (by omega) (fun l hl => matesS l hl) i hi
  have h2 : Cg 3329 (3303 * fwdN 3329 zetS 7 (invN 3329 zetS 7 L) i) (L i) := by
    refine ((Cg.refl _ 3303).mul h).trans ?_
    exact ⟨127 * L i, by
      have e2 : (2 : Int) ^ 7 = 128 := by decide
      rw [e2]
      omega⟩
  have hr := fwdN_range 3329 (by omega) zetS (fun i => invN 3329 zetS 7 L i * 3303 % 3329) (fun j _ => ⟨Int.emod_nonneg _ (by omega), Int.emod_lt_of_pos _ (by omega)⟩) 7 i hi
  exact (h1.trans h2).eq hr.1 hr.2 (hL i hi).1 (hL i hi).2

theorem undo1_32 (L : Nat → Int) (hL : ∀ i, i < 256 → 0 ≤ L i ∧ L i < 8380417) (i : Nat) (hi : i < 256) : invN 8380417 zetG 8 (fwdN 8380417 zetG 8 L) i * 8347681 % 8380417 = L i := by
  have h := inv_fwd 8380417 zetG 8 L (by omega) (fun l hl => matesG l hl) i hi
  have h2 : Cg 8380417 (invN 8380417 zetG 8 (fwdN 8380417 zetG 8 L) i * 8347681) (L i) := by
    refine (h.mul (Cg.refl _ 8347681)).trans ?_
    exact ⟨(2 ^ 8 * 8347681 - 1) / 8380417 * L i, by
      have e : ((2 : Int) ^ 8 * 8347681 - 1) / 8380417 = 255 := by decide
      rw [e]
      have e2 : (2 : Int) ^ 8 = 256 := by decide
      rw [e2]
      omega⟩
  exact ((cg_mod _ _).trans h2).eq (Int.emod_nonneg _ (by omega)) (Int.emod_lt_of_pos _ (by omega)) (hL i hi).1 (hL i hi).2
theorem undo2_32 (L : Nat → Int) (hL : ∀ i, i < 256 → 0 ≤ L i ∧ L i < 8380417) (i : Nat) (hi : i < 256) : fwdN 8380417 zetG 8 (fun i => invN 8380417 zetG 8 L i * 8347681 % 8380417) i = L i := by
  have h1 := fwdN_lin 8380417 8347681 zetG 8 (invN 8380417 zetG 8 L) (fun i => invN 8380417 zetG 8 L i * 8347681 % 8380417) (by omega) (fun j _ => (cg_mod _ _).trans (.of_eq (Int.mul_comm _ _))) i hi
  have h := fwd_inv 8380417 zetG 8 L (by omega) (fun l hl => matesG l hl) i hi
  have h2 : Cg 8380417 (8347681 * fwdN 8380417 zetG 8 (invN 8380417 zetG 8 L) i) (L i) := by
    refine ((Cg.refl _ 8347681).mul h).trans ?_
    exact ⟨255 * L i, by
      have e2 : (2 : Int) ^ 8 = 256 := by decide
      rw [e2]
      omega⟩
  have hr := fwdN_range 8380417 (by omega) zetG (fun i => invN 8380417 zetG 8 L i * 8347681 % 8380417) (fun j _ => ⟨Int.emod_nonneg _ (by omega), Int.emod_lt_of_pos _ (by omega)⟩) 8 i hi
  exact (h1.trans h2).eq hr.1 hr.2 (hL i hi).1 (hL i hi).2
end Go.Proofs.Ytkijpphmiogbbaa
