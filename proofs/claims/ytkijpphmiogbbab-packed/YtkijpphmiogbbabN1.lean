namespace Go.Proofs.Ytkijpphmiogbbab
/-- The bits of T from lo to hi. -/
def win (T lo hi : Nat) : Nat := T % 2 ^ hi / 2 ^ lo
theorem win_none (T n : Nat) : win T n n = 0 := Nat.div_eq_of_lt (Nat.mod_lt _ (Nat.two_pow_pos n))
theorem win_lt (T lo hi : Nat) (h : lo ≤ hi) : win T lo hi < 2 ^ (hi - lo) := by
  unfold win
  rw [Nat.div_lt_iff_lt_mul (Nat.two_pow_pos lo), ← Nat.pow_add, show hi - lo + lo = hi by omega]
  exact Nat.mod_lt _ (Nat.two_pow_pos hi)
theorem win_add (T lo hi k : Nat) (h : lo ≤ hi) : win T lo hi + T / 2 ^ hi % 2 ^ k * 2 ^ (hi - lo) = win T lo (hi + k) := by
  unfold win
  have e : T % 2 ^ (hi + k) = T % 2 ^ hi + 2 ^ lo * (T / 2 ^ hi % 2 ^ k * 2 ^ (hi - lo)) := by
    rw [Nat.pow_add, Nat.mod_mul]
    have : 2 ^ hi = 2 ^ lo * 2 ^ (hi - lo) := by rw [← Nat.pow_add]; congr 1; omega
    conv => lhs; arg 2; rw [this]
    rw [Nat.mul_assoc, Nat.mul_comm (2 ^ (hi - lo)), ← this]
  rw [e, Nat.add_mul_div_left _ _ (Nat.two_pow_pos lo)]
theorem win_low (T lo hi k : Nat) (h : lo + k ≤ hi) : win T lo hi % 2 ^ k = T / 2 ^ lo % 2 ^ k := by
  unfold win
  have e : hi = lo + (k + (hi - lo - k)) := by omega
  rw [e, Nat.pow_add, Nat.mod_mul_right_div_self, Nat.pow_add]
  exact Nat.mod_mul_right_mod _ _ _
theorem win_shift (T lo hi k : Nat) : win T lo hi / 2 ^ k = win T (lo + k) hi := by
  unfold win; rw [Nat.div_div_eq_div_mul, ← Nat.pow_add]

/-- n digits as a number. -/
def num (B : Nat) (a : Nat → Nat) : Nat → Nat
  | 0 => 0
  | n + 1 => num B a n + B ^ n * a n
theorem num_lt (B : Nat) (a : Nat → Nat) : ∀ n, (∀ i, i < n → a i < B) → num B a n < B ^ n
  | 0, _ => by simp [num]
  | n + 1, h => by
    have h1 := num_lt B a n (fun i hi => h i (by omega))
    have h2 := h n (by omega)
    unfold num
    rw [Nat.pow_succ]
    calc num B a n + B ^ n * a n < B ^ n + B ^ n * a n := by omega
      _ = B ^ n * (a n + 1) := by rw [Nat.mul_add]; omega
      _ ≤ B ^ n * B := Nat.mul_le_mul_left _ h2
theorem num_digit (B : Nat) (a : Nat → Nat) : ∀ n i, (∀ i, i < n → a i < B) → i < n → num B a n / B ^ i % B = a i
  | 0, i, _, hi => by omega
  | n + 1, i, h, hi => by
    have h1 := num_lt B a n (fun i hi => h i (by omega))
    have hB : 0 < B := Nat.lt_of_le_of_lt (Nat.zero_le _) (h 0 (by omega))
    have hP : ∀ m, 0 < B ^ m := fun m => Nat.pow_pos hB
    unfold num
    by_cases e : i = n
    · subst e
      rw [Nat.add_mul_div_left _ _ (hP i), Nat.div_eq_of_lt h1, Nat.zero_add, Nat.mod_eq_of_lt (h i (by omega))]
    · have e2 : B ^ n = B ^ i * (B * B ^ (n - i - 1)) := by rw [← Nat.pow_succ', ← Nat.pow_add]; congr 1; omega
      rw [e2, Nat.mul_assoc, Nat.add_mul_div_left _ _ (hP i), Nat.mul_assoc, Nat.add_mul_mod_self_left]
      exact num_digit B a n i (fun i hi => h i (by omega)) (by omega)
theorem num_of (B S : Nat) : ∀ n, num B (fun i => S / B ^ i % B) n = S % B ^ n
  | 0 => by simp [num, Nat.mod_one]
  | n + 1 => by rw [num, num_of B S n, Nat.mod_pow_succ]
theorem num_ext (B : Nat) (a b : Nat → Nat) : ∀ n, (∀ i, i < n → a i = b i) → num B a n = num B b n
  | 0, _ => rfl
  | n + 1, h => by rw [num, num, num_ext B a b n (fun i hi => h i (by omega)), h n (by omega)]
end Go.Proofs.Ytkijpphmiogbbab
