namespace Go.Proofs.Ytkijpphmiogbbaa
def compI (n a : Nat) : Nat := (a * 2 ^ (n + 1) + 3329) / 6658 % 2 ^ n
def decI (n b : Nat) : Nat := (b * 3329 + 2 ^ (n - 1)) / 2 ^ n
def farI (a b : Nat) : Nat := cond (Nat.blt (3329 - (a + 3329 - b) % 3329) ((a + 3329 - b) % 3329)) (3329 - (a + 3329 - b) % 3329) ((a + 3329 - b) % 3329)
def fine (n a : Nat) : Bool := (Nat.blt (compI n a) (2 ^ n)).and ((Nat.blt (decI n (compI n a)) 3329).and ((Nat.beq (compI n (decI n (compI n a))) (compI n a)).and (Nat.ble (farI a (decI n (compI n a))) ((3329 + 2 ^ n) / 2 ^ (n + 1)))))
def fineTo (n : Nat) : Nat → Bool
  | 0 => true
  | a + 1 => (fine n a).and (fineTo n a)
set_option maxRecDepth 1000000 in
theorem all_fine : ∀ n : Fin 11, fineTo (n.val + 1) 3329 = true := by decide +kernel
theorem fineTo_at (n : Nat) : ∀ m a, fineTo n m = true → a < m → fine n a = true
  | 0, a, _, h => by omega
  | m + 1, a, h, ha => by
    have h' : ((fine n m).and (fineTo n m)) = true := h
    rw [Bool.and_eq_true] at h'
    by_cases e : a = m
    · subst e; exact h'.1
    · exact fineTo_at n m a h'.2 (by omega)
theorem fine_at (n a : Nat) (h0 : 1 ≤ n) (h1 : n ≤ 11) (ha : a < 3329) : compI n a < 2 ^ n ∧ decI n (compI n a) < 3329 ∧ compI n (decI n (compI n a)) = compI n a ∧ farI a (decI n (compI n a)) ≤ (3329 + 2 ^ n) / 2 ^ (n + 1) := by
  have h := all_fine ⟨n - 1, by omega⟩
  simp only [] at h
  rw [Nat.sub_add_cancel h0] at h
  have f := fineTo_at n 3329 a h ha
  unfold fine at f
  rw [Bool.and_eq_true, Bool.and_eq_true, Bool.and_eq_true] at f
  exact ⟨Nat.blt_eq.mp f.1, Nat.blt_eq.mp f.2.1, Nat.eq_of_beq_eq_true f.2.2.1, Nat.le_of_ble_eq_true f.2.2.2⟩
end Go.Proofs.Ytkijpphmiogbbaa
