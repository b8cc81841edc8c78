import Derived.Test.YtkijpphmiogbbaaGreatDoorK06
namespace Go.Proofs.YtkijpphmiogbbaaGreatDoor

theorem sm_add : ∀ (n : Nat) (f g : Nat → Int), sm n (fun t => f t + g t) = sm n f + sm n g
  | 0, _, _ => rfl
  | n + 1, f, g => by
    have h := sm_add n f g
    show sm n (fun t => f t + g t) + (f n + g n) = (sm n f + f n) + (sm n g + g n)
    omega
theorem sm_nil : ∀ n : Nat, sm n (fun _ => 0) = 0
  | 0 => rfl
  | n + 1 => by have h := sm_nil n; show sm n (fun _ => 0) + 0 = 0; omega
theorem sm_swap (m : Nat) (F : Nat → Nat → Int) : ∀ n : Nat, sm n (fun i => sm m (fun j => F i j)) = sm m (fun j => sm n (fun i => F i j))
  | 0 => (sm_nil m).symm
  | n + 1 => by
    have h := sm_swap m F n
    have e := sm_add m (fun j => sm n (fun i => F i j)) (fun j => F n j)
    show sm n (fun i => sm m (fun j => F i j)) + sm m (fun j => F n j) = sm m (fun j => sm n (fun i => F i j) + F n j)
    rw [h, e]
theorem sm_one (c : Int) : ∀ n : Nat, sm n (fun _ => c) = n * c
  | 0 => by simp [sm]
  | n + 1 => by have h := sm_one c n; show sm n (fun _ => c) + c = _; rw [h]; push_cast; grind
theorem sm_pick (c : Int) (f : Nat → Int) (j : Nat) : ∀ n : Nat, sm n (fun t => f t * (if j = t then c else 0)) = if j < n then f j * c else 0
  | 0 => rfl
  | n + 1 => by
    have h := sm_pick c f j n
    show sm n (fun t => f t * (if j = t then c else 0)) + f n * (if j = n then c else 0) = _
    rw [h]
    by_cases h1 : j < n
    · rw [if_pos h1, if_neg (by omega), if_pos (by omega)]; omega
    · rw [if_neg h1]
      by_cases h2 : j = n
      · subst h2; rw [if_pos rfl, if_pos (by omega)]; omega
      · rw [if_neg h2, if_neg (by omega)]; omega
/-- The sums of the roots' powers are nought. -/
theorem pow_sum (q : Int) (z : Nat → Int) (y : Nat → Nat → Int) (n : Nat) (R : Roots q z y n) : ∀ l, l ≤ n → ∀ d, 0 < d → d < 2 ^ l → Cg q (sm (2 ^ l) (fun b => y l b ^ d)) 0
  | 0, _, d, h0, h1 => absurd h1 (by simp; omega)
  | l + 1, hl, d, h0, h1 => by
    rw [show (2 : Nat) ^ (l + 1) = 2 * 2 ^ l by rw [Nat.pow_succ]; omega] at h1 ⊢
    rw [sm_two, ← sm_add]
    by_cases hd : d % 2 = 0
    · obtain ⟨e, rfl⟩ : ∃ e, d = 2 * e := ⟨d / 2, by omega⟩
      have ih := pow_sum q z y n R l (by omega) e (by omega) (by omega)
      have c : ∀ b, b < 2 ^ l → Cg q (y (l + 1) (2 * b) ^ (2 * e) + y (l + 1) (2 * b + 1) ^ (2 * e)) (2 * y l b ^ e) := fun b hb => by
        have s := R.sq l b (by omega) hb
        rw [R.even l b (by omega) hb, R.odd l b (by omega) hb, pow_two, pow_two, show -z (2 ^ l + b) * -z (2 ^ l + b) = z (2 ^ l + b) * z (2 ^ l + b) by grind]
        exact ((s.pow e).add (s.pow e)).trans (.of_eq (by omega))
      refine (sm_cg q _ _ _ c).trans ?_
      rw [← sm_mul]
      exact ((Cg.refl q 2).mul ih).trans (.of_eq (by omega))
    · obtain ⟨e, rfl⟩ : ∃ e, d = 2 * e + 1 := ⟨d / 2, by omega⟩
      refine .of_eq ?_
      have c : ∀ b, b < 2 ^ l → y (l + 1) (2 * b) ^ (2 * e + 1) + y (l + 1) (2 * b + 1) ^ (2 * e + 1) = 0 := fun b hb => by
        rw [R.even l b (by omega) hb, R.odd l b (by omega) hb, Int.pow_succ, Int.pow_succ, pow_two, pow_two, show -z (2 ^ l + b) * -z (2 ^ l + b) = z (2 ^ l + b) * z (2 ^ l + b) by grind]
        grind
      rw [sm_ext _ _ (fun _ => 0) c]
      exact sm_nil _
/-- Roots and their inverses, multiplied, over all roots. -/
theorem orth (q : Int) (N : Nat) (y k : Nat → Int) (hs : ∀ d, 0 < d → d < N → Cg q (sm N (fun b => y b ^ d)) 0) (ht : ∀ b, b < N → Cg q (y b ^ N) (-1)) (hk : ∀ b, b < N → Cg q (k b * y b) 1)
    (j t : Nat) (hj : j < N) (htt : t < N) : Cg q (sm N (fun b => k b ^ j * y b ^ t)) (if j = t then (N : Int) else 0) := by
  have hp : ∀ b, b < N → ∀ d, Cg q (k b ^ d * y b ^ d) 1 := fun b hb d => by
    have h := (hk b hb).pow d
    rw [Int.mul_pow, Int.one_pow] at h
    exact h
  rcases Nat.lt_trichotomy j t with h | h | h
  · rw [if_neg (by omega)]
    refine Cg.trans (sm_cg q N _ (fun b => y b ^ (t - j)) fun b hb => ?_) (hs (t - j) (by omega) (by omega))
    obtain ⟨e, rfl⟩ : ∃ e, t = j + e := ⟨t - j, by omega⟩
    rw [Int.pow_add, show j + e - j = e by omega, ← Int.mul_assoc]
    exact ((hp b hb j).mul (Cg.refl q _)).trans (.of_eq (by omega))
  · subst h
    rw [if_pos rfl]
    exact (sm_cg q N _ (fun _ => 1) fun b hb => hp b hb j).trans (.of_eq (by rw [sm_one]; omega))
  · rw [if_neg (by omega)]
    obtain ⟨e, rfl⟩ : ∃ e, j = t + e := ⟨j - t, by omega⟩
    have h2 : Cg q (sm N (fun b => k b ^ (t + e) * y b ^ t)) (-1 * sm N (fun b => y b ^ (N - e))) := by
      rw [sm_mul]
      refine sm_cg q N _ _ fun b hb => ?_
      have a1 : Cg q (k b ^ (t + e) * y b ^ t) (k b ^ e) := by
        rw [Int.pow_add, show k b ^ t * k b ^ e * y b ^ t = (k b ^ t * y b ^ t) * k b ^ e by grind]
        exact ((hp b hb t).mul (Cg.refl q _)).trans (.of_eq (by omega))
      have a2 : Cg q (k b ^ e * y b ^ N) (y b ^ (N - e)) := by
        rw [show y b ^ N = y b ^ e * y b ^ (N - e) by rw [← Int.pow_add]; congr 1; omega, ← Int.mul_assoc]
        exact ((hp b hb e).mul (Cg.refl q _)).trans (.of_eq (by omega))
      have a3 : Cg q (k b ^ e * y b ^ N) (-(k b ^ e)) := ((Cg.refl q (k b ^ e)).mul (ht b hb)).trans (.of_eq (by omega))
      have a4 : Cg q (k b ^ e) (-1 * y b ^ (N - e)) := by
        have := (Cg.refl q (-1)).mul (a3.symm.trans a2)
        exact (Cg.of_eq (by omega)).trans this
      exact a1.trans a4
    exact h2.trans (((Cg.refl q (-1)).mul (hs (N - e) (by omega) (by omega))).trans (.of_eq (by omega)))
/-- What was evaluated at the roots is found again by the inverses. -/
theorem back_sum (q : Int) (N : Nat) (y k : Nat → Int) (p : Int) (hp : Cg q (N * p) 1) (hs : ∀ d, 0 < d → d < N → Cg q (sm N (fun b => y b ^ d)) 0) (ht : ∀ b, b < N → Cg q (y b ^ N) (-1)) (hk : ∀ b, b < N → Cg q (k b * y b) 1)
    (L G : Nat → Int) (hG : ∀ b, b < N → Cg q (G b) (sm N (fun t => L t * y b ^ t))) (j : Nat) (hj : j < N) : Cg q (sm N (fun b => G b * (p * k b ^ j))) (L j) := by
  have h1 : Cg q (sm N (fun b => G b * (p * k b ^ j))) (sm N (fun b => sm N (fun t => L t * y b ^ t) * (p * k b ^ j))) := sm_cg q N _ _ fun b hb => (hG b hb).mul (Cg.refl q _)
  have h2 : sm N (fun b => sm N (fun t => L t * y b ^ t) * (p * k b ^ j)) = sm N (fun t => (p * L t) * sm N (fun b => k b ^ j * y b ^ t)) := by
    have e1 : ∀ b, sm N (fun t => L t * y b ^ t) * (p * k b ^ j) = sm N (fun t => (p * L t) * (k b ^ j * y b ^ t)) := fun b => by
      rw [Int.mul_comm, sm_mul]
      exact sm_ext _ _ _ fun t _ => by grind
    have e2 : sm N (fun b => sm N (fun t => L t * y b ^ t) * (p * k b ^ j)) = sm N (fun b => sm N (fun t => (p * L t) * (k b ^ j * y b ^ t))) := sm_ext _ _ _ fun b _ => e1 b
    rw [e2, sm_swap]
    exact sm_ext _ _ _ fun t _ => (sm_mul _ _ _).symm
  have h3 : Cg q (sm N (fun t => (p * L t) * sm N (fun b => k b ^ j * y b ^ t))) (sm N (fun t => (p * L t) * (if j = t then (N : Int) else 0))) := sm_cg q N _ _ fun t htt => (Cg.refl q _).mul (orth q N y k hs ht hk j t hj htt)
  rw [h2] at h1
  refine h1.trans (h3.trans ?_)
  rw [sm_pick, if_pos hj]
  exact (Cg.of_eq (by grind)).trans (((Cg.refl q (L j)).mul hp).trans (.of_eq (by omega)))
end Go.Proofs.YtkijpphmiogbbaaGreatDoor

namespace Go.Proofs.YtkijpphmiogbbaaGreatDoor

theorem pow_order (q y : Int) (N m : Nat) (h : Cg q (y ^ N) (-1)) : Cg q (y ^ (2 * N * m)) 1 := by
  have h2 : Cg q (y ^ (2 * N)) 1 := by
    rw [show 2 * N = N + N by omega, Int.pow_add]
    exact (h.mul h).trans (.of_eq (by omega))
  rw [Int.pow_mul]
  exact (h2.pow m).trans (.of_eq (Int.one_pow))
theorem fermat (q y : Int) (N m e : Nat) (he : e + 1 = 2 * N * m) (h : Cg q (y ^ N) (-1)) : Cg q (y ^ e % q * y) 1 :=
  ((cg_mod q (y ^ e)).mul (Cg.refl q y)).trans ((Cg.of_eq (by rw [← he, Int.pow_succ])).trans (pow_order q y N m h))
/-- The document's root of a pair; of a place. -/
def yG (b : Nat) : Int := if b % 2 = 0 then zetG (128 + b / 2) else 8380417 - zetG (128 + b / 2)
theorem yG_root (b : Nat) : Cg 8380417 (yG b) (rootOf zetG 8 b) := by
  rw [rootOf_succ]
  unfold yG
  by_cases h : b % 2 = 0
  · rw [if_pos h, if_pos h]; exact Cg.refl _ _
  · rw [if_neg h, if_neg h]
    exact ⟨1, by
      have : (2 : Nat) ^ 7 = 128 := by decide
      rw [this]; omega⟩
set_option maxRecDepth 100000 in
theorem yS_doc (b : Nat) (h : b < 128) : yS b = ((17 ^ (2 * (rev8 b / 2) + 1) % 3329 : Nat) : Int) := by
  have : ∀ b : Fin 128, yS b.val = ((17 ^ (2 * (rev8 b.val / 2) + 1) % 3329 : Nat) : Int) := by decide +kernel
  exact this ⟨b, h⟩
set_option maxRecDepth 100000 in
theorem yG_doc (b : Nat) (h : b < 256) : yG b = ((1753 ^ (2 * rev8 b + 1) % 8380417 : Nat) : Int) := by
  have : ∀ b : Fin 256, yG b.val = ((1753 ^ (2 * rev8 b.val + 1) % 8380417 : Nat) : Int) := by decide +kernel
  exact this ⟨b, h⟩
theorem yS_top (b : Nat) (h : b < 128) : Cg 3329 (yS b ^ 128) (-1) :=
  ((yS_root b).pow 128).trans (roots_top 3329 zetS 7 rootsS 7 (by omega) b h)
theorem yG_top (b : Nat) (h : b < 256) : Cg 8380417 (yG b ^ 256) (-1) :=
  ((yG_root b).pow 256).trans (roots_top 8380417 zetG 8 rootsG 8 (by omega) b h)
theorem yS_sum (d : Nat) (h0 : 0 < d) (h1 : d < 128) : Cg 3329 (sm 128 (fun b => yS b ^ d)) 0 :=
  (sm_cg _ 128 _ _ fun b _ => (yS_root b).pow d).trans (pow_sum 3329 zetS _ 7 rootsS 7 (by omega) d h0 h1)
theorem yG_sum (d : Nat) (h0 : 0 < d) (h1 : d < 256) : Cg 8380417 (sm 256 (fun b => yG b ^ d)) 0 :=
  (sm_cg _ 256 _ _ fun b _ => (yG_root b).pow d).trans (pow_sum 8380417 zetG _ 8 rootsG 8 (by omega) d h0 h1)
def bkS (b : Nat) : Int := yS b ^ 3327 % 3329
def bkG (b : Nat) : Int := yG b ^ 8380415 % 8380417
theorem bkS_inv (b : Nat) (h : b < 128) : Cg 3329 (bkS b * yS b) 1 := fermat 3329 (yS b) 128 13 3327 (by decide) (yS_top b h)
theorem bkG_inv (b : Nat) (h : b < 256) : Cg 8380417 (bkG b * yG b) 1 := fermat 8380417 (yG b) 256 16368 8380415 (by decide) (yG_top b h)
/-- The document's transforms, as they are reckoned. -/
def rFwdS (L : Nat → Int) (j : Nat) : Int := sm 128 (fun t => L (2 * t + j % 2) * (yS (j / 2) ^ t % 3329)) % 3329
def rInvS (G : Nat → Int) (j : Nat) : Int := sm 128 (fun b => G (2 * b + j % 2) * (3303 * bkS b ^ (j / 2) % 3329)) % 3329
def rFwdG (L : Nat → Int) (j : Nat) : Int := sm 256 (fun t => L t * yG j ^ t) % 8380417
def rInvG (G : Nat → Int) (j : Nat) : Int := sm 256 (fun b => G b * 8347681 % 8380417 * bkG b ^ j % 8380417) % 8380417
theorem evalS (L : Nat → Int) (b r : Nat) (hb : b < 128) (hr : r < 2) : Cg 3329 (fwdN 3329 zetS 7 L (2 * b + r)) (sm 128 (fun t => L (2 * t + r) * yS b ^ t)) := by
  have h := fwd_eval 3329 zetS _ 7 (by omega) rootsS L 7 (by omega) b r hb hr
  refine Cg.trans h (sm_cg _ _ _ _ fun t _ => ?_)
  rw [show r + 256 / 2 ^ 7 * t = 2 * t + r by rw [show 256 / 2 ^ 7 = 2 by decide]; omega]
  exact (Cg.refl _ _).mul ((yS_root b).symm.pow t)
theorem evalG (L : Nat → Int) (b : Nat) (hb : b < 256) : Cg 8380417 (fwdN 8380417 zetG 8 L b) (sm 256 (fun t => L t * yG b ^ t)) := by
  have h := fwd_eval 8380417 zetG _ 8 (by omega) rootsG L 8 (by omega) b 0 hb (by decide)
  rw [show 256 / 2 ^ 8 * b + 0 = b by rw [show 256 / 2 ^ 8 = 1 by decide]; omega] at h
  refine Cg.trans h (sm_cg _ _ _ _ fun t _ => ?_)
  rw [show 0 + 256 / 2 ^ 8 * t = t by rw [show 256 / 2 ^ 8 = 1 by decide]; omega]
  exact (Cg.refl _ _).mul ((yG_root b).symm.pow t)
def Rg (q : Int) (L : Nat → Int) : Prop := ∀ i, i < 256 → 0 ≤ L i ∧ L i < q
theorem rFwdS_is (L : Nat → Int) (hL : Rg 3329 L) (j : Nat) (hj : j < 256) : rFwdS L j = fwdN 3329 zetS 7 L j := by
  have hr := fwdN_range 3329 (by omega) zetS L hL 7 j hj
  have h := evalS L (j / 2) (j % 2) (by omega) (by omega)
  rw [show 2 * (j / 2) + j % 2 = j by omega] at h
  refine Cg.eq ((cg_mod _ _).trans (Cg.trans ?_ h.symm)) (Int.emod_nonneg _ (by omega)) (Int.emod_lt_of_pos _ (by omega)) hr.1 hr.2
  exact sm_cg _ _ _ _ fun t _ => (Cg.refl _ _).mul (cg_mod _ _)
theorem rFwdG_is (L : Nat → Int) (hL : Rg 8380417 L) (j : Nat) (hj : j < 256) : rFwdG L j = fwdN 8380417 zetG 8 L j := by
  have hr := fwdN_range 8380417 (by omega) zetG L hL 8 j hj
  exact Cg.eq ((cg_mod _ _).trans (evalG L j hj).symm) (Int.emod_nonneg _ (by omega)) (Int.emod_lt_of_pos _ (by omega)) hr.1 hr.2
theorem rInvS_is (G : Nat → Int) (hG : Rg 3329 G) (j : Nat) (hj : j < 256) : rInvS G j = invN 3329 zetS 7 G j * 3303 % 3329 := by
  obtain ⟨L, hL⟩ : ∃ L : Nat → Int, L = fun i => invN 3329 zetS 7 G i * 3303 % 3329 := ⟨_, rfl⟩
  have e : L j = invN 3329 zetS 7 G j * 3303 % 3329 := by rw [hL]
  rw [← e]
  have hr : 0 ≤ L j ∧ L j < 3329 := by rw [e]; exact ⟨Int.emod_nonneg _ (by omega), Int.emod_lt_of_pos _ (by omega)⟩
  have hu : ∀ i, i < 256 → fwdN 3329 zetS 7 L i = G i := fun i hi => by rw [hL]; exact undo2_16 G hG i hi
  have hb := back_sum 3329 128 yS bkS 3303 ⟨127, by decide⟩ yS_sum yS_top bkS_inv (fun t => L (2 * t + j % 2)) (fun b => G (2 * b + j % 2)) (fun b hb => by
    rw [← hu (2 * b + j % 2) (by omega)]
    exact evalS L b (j % 2) hb (by omega)) (j / 2) (by omega)
  rw [show 2 * (j / 2) + j % 2 = j by omega] at hb
  refine Cg.eq ((cg_mod _ _).trans (Cg.trans ?_ hb)) (Int.emod_nonneg _ (by omega)) (Int.emod_lt_of_pos _ (by omega)) hr.1 hr.2
  exact sm_cg _ _ _ _ fun t _ => (Cg.refl _ _).mul (cg_mod _ _)
theorem rInvG_is (G : Nat → Int) (hG : Rg 8380417 G) (j : Nat) (hj : j < 256) : rInvG G j = invN 8380417 zetG 8 G j * 8347681 % 8380417 := by
  obtain ⟨L, hL⟩ : ∃ L : Nat → Int, L = fun i => invN 8380417 zetG 8 G i * 8347681 % 8380417 := ⟨_, rfl⟩
  have e : L j = invN 8380417 zetG 8 G j * 8347681 % 8380417 := by rw [hL]
  rw [← e]
  have hr : 0 ≤ L j ∧ L j < 8380417 := by rw [e]; exact ⟨Int.emod_nonneg _ (by omega), Int.emod_lt_of_pos _ (by omega)⟩
  have hu : ∀ i, i < 256 → fwdN 8380417 zetG 8 L i = G i := fun i hi => by rw [hL]; exact undo2_32 G hG i hi
  have hb := back_sum 8380417 256 yG bkG 8347681 ⟨255, by decide⟩ yG_sum yG_top bkG_inv L G (fun b hb => by
    rw [← hu b hb]
    exact evalG L b hb) j hj
  refine Cg.eq ((cg_mod _ _).trans (Cg.trans ?_ hb)) (Int.emod_nonneg _ (by omega)) (Int.emod_lt_of_pos _ (by omega)) hr.1 hr.2
  exact sm_cg _ _ _ _ fun t _ => (cg_mod _ _).trans (((cg_mod _ _).mul (Cg.refl _ _)).trans (.of_eq (by grind)))
theorem part_S : ((128 ^ 3327 % 3329 : Nat) : Int) = 3303 := by decide +kernel
end Go.Proofs.YtkijpphmiogbbaaGreatDoor
