import Derived.Test.YtkijpphmiogbbabDoorDc
namespace Go.Proofs.YtkijpphmiogbbabDoor

/-- The high part that a hint tells of. -/
def useI (g h r : Int) : Int := if h = 0 then decH g r else if 0 < decL g r then (decH g r + 1) % (8380416 / (2 * g)) else (decH g r + 8380416 / (2 * g) - 1) % (8380416 / (2 * g))
/-- The hint of r and r + z. -/
def hintI (g z r : Int) : Int := if decH g r = decH g ((r + z) % 8380417) then 0 else 1
theorem dec_form (g a : Int) (hg : g = 95232 ∨ g = 261888) (ha : 0 ≤ a) (ha' : a < 8380417) :
    (a = decH g a * (2 * g) + decL g a ∧ 0 ≤ decH g a ∧ decH g a < 8380416 / (2 * g) ∧ -g < decL g a ∧ decL g a ≤ g) ∨ (decH g a = 0 ∧ a = decL g a + 8380417 ∧ -g ≤ decL g a ∧ decL g a < 0) := by
  have hb := dec_bounds g a hg ha ha'
  unfold decH decL cenI at *
  rcases hg with rfl | rfl
  · simp only [show (2 : Int) * 95232 = 190464 from rfl, show (8380416 : Int) / 190464 = 44 from rfl, show (190464 : Int) / 2 = 95232 from rfl] at *
    by_cases h : 95232 < a % 190464
    · rw [if_pos h] at *
      split at * <;> omega
    · rw [if_neg h] at *
      split at * <;> omega
  · simp only [show (2 : Int) * 261888 = 523776 from rfl, show (8380416 : Int) / 523776 = 16 from rfl, show (523776 : Int) / 2 = 261888 from rfl] at *
    by_cases h : 261888 < a % 523776
    · rw [if_pos h] at *
      split at * <;> omega
    · rw [if_neg h] at *
      split at * <;> omega
theorem hint_math (g z r : Int) (hg : g = 95232 ∨ g = 261888) (hr : 0 ≤ r) (hr' : r < 8380417) (hz : 0 ≤ z) (hz' : z < 8380417) (hs : z ≤ g ∨ 8380417 - g ≤ z) : useI g (hintI g z r) r = decH g ((r + z) % 8380417) := by
  have hq : 0 ≤ (r + z) % 8380417 ∧ (r + z) % 8380417 < 8380417 := ⟨Int.emod_nonneg _ (by omega), Int.emod_lt_of_pos _ (by omega)⟩
  have f1 := dec_form g r hg hr hr'
  have f2 := dec_form g ((r + z) % 8380417) hg hq.1 hq.2
  unfold hintI useI
  by_cases e : decH g r = decH g ((r + z) % 8380417)
  · rw [if_pos e, if_pos rfl]; exact e
  · rw [if_neg e, if_neg (by omega)]
    have e' : (r + z) % 8380417 = r + z ∨ (r + z) % 8380417 = r + z - 8380417 := by omega
    generalize (r + z) % 8380417 = t at *
    generalize decH g t = h2 at *
    generalize decL g t = l2 at *
    generalize decH g r = h1 at *
    generalize decL g r = l1 at *
    rcases hg with rfl | rfl
    · simp only [show (2 : Int) * 95232 = 190464 from rfl, show (8380416 : Int) / 190464 = 44 from rfl] at *
      split <;> omega
    · simp only [show (2 : Int) * 261888 = 523776 from rfl, show (8380416 : Int) / 523776 = 16 from rfl] at *
      split <;> omega

/-- How many of the first n are not 0. -/
def cnt (f : Nat → Int) : Nat → Nat
  | 0 => 0
  | n + 1 => cnt f n + if f n = 0 then 0 else 1
theorem cnt_mono (f : Nat → Int) {m n : Nat} (h : m ≤ n) : cnt f m ≤ cnt f n := by
  induction n with
  | zero => have : m = 0 := by omega
            subst this; exact Nat.le_refl _
  | succ n ih =>
    by_cases e : m = n + 1
    · subst e; exact Nat.le_refl _
    · exact Nat.le_trans (ih (by omega)) (by show cnt f n ≤ cnt f n + _; omega)
theorem cnt_one (f : Nat → Int) (n : Nat) (h : f n ≠ 0) : cnt f (n + 1) = cnt f n + 1 := by show cnt f n + _ = _; rw [if_neg h]
theorem cnt_zero (f : Nat → Int) (n : Nat) (h : f n = 0) : cnt f (n + 1) = cnt f n := by show cnt f n + _ = _; rw [if_pos h]; rfl
theorem cnt_lt (f : Nat → Int) {i n : Nat} (hi : i < n) (h : f i ≠ 0) : cnt f i < cnt f n := by
  have := cnt_mono f (show i + 1 ≤ n by omega)
  rw [cnt_one f i h] at this; omega
theorem cnt_ext {f h : Nat → Int} (n : Nat) (e : ∀ i, i < n → f i = h i) : cnt f n = cnt h n := by
  induction n with
  | zero => rfl
  | succ n ih => show cnt f n + _ = cnt h n + _; rw [ih (fun i hi => e i (by omega)), e n (by omega)]
theorem cnt_upd (f : Nat → Int) (p : Nat) (v : Int) (n : Nat) : cnt (upd f p v) n ≤ cnt f n + 1 := by
  by_cases hp : p < n
  · induction n with
    | zero => omega
    | succ n ih =>
      by_cases e : p = n
      · subst e
        have h1 : cnt (upd f p v) p = cnt f p := cnt_ext p (fun i hi => upd_ne _ _ _ _ (by omega))
        show cnt (upd f p v) p + _ ≤ cnt f p + _ + 1
        rw [h1]; split <;> split <;> omega
      · have h1 := ih (by omega)
        show cnt (upd f p v) n + _ ≤ cnt f n + _ + 1
        rw [upd_ne f p n v (by omega)]; omega
  · rw [cnt_ext n (fun i hi => upd_ne f p i v (by omega))]; omega
theorem cnt_none (n : Nat) : cnt (fun _ => 0) n = 0 := by
  induction n with
  | zero => rfl
  | succ n ih => rw [cnt_zero (fun _ => 0) n rfl, ih]
/-- The n-th one. -/
theorem cnt_nth (f : Nat → Int) (m n : Nat) (h : n < cnt f m) : ∃ i, i < m ∧ f i ≠ 0 ∧ cnt f i = n := by
  induction m with
  | zero => exact absurd h (by show ¬ n < 0; omega)
  | succ m ih =>
    by_cases e : f m = 0
    · rw [cnt_zero f m e] at h
      obtain ⟨i, h1, h2, h3⟩ := ih h
      exact ⟨i, by omega, h2, h3⟩
    · rw [cnt_one f m e] at h
      by_cases e2 : n < cnt f m
      · obtain ⟨i, h1, h2, h3⟩ := ih e2
        exact ⟨i, by omega, h2, h3⟩
      · exact ⟨m, by omega, e, by omega⟩
theorem cnt_inj (f : Nat → Int) {i j : Nat} (hi : f i ≠ 0) (hj : f j ≠ 0) (h : cnt f i = cnt f j) : i = j := by
  rcases Nat.lt_trichotomy i j with h1 | h1 | h1
  · have := cnt_lt f h1 hi; omega
  · exact h1
  · have := cnt_lt f h1 hj; omega
theorem cnt_order (f : Nat → Int) {i j : Nat} (h : cnt f i < cnt f j) : i < j := by
  rcases Nat.lt_or_ge i j with h1 | h1
  · exact h1
  · have := cnt_mono f h1; omega
/-- How many in the first s polynomials. -/
def tot (Ls : Nat → Nat → Int) : Nat → Nat
  | 0 => 0
  | s + 1 => tot Ls s + cnt (Ls s) 256
theorem tot_mono (Ls : Nat → Nat → Int) {m n : Nat} (h : m ≤ n) : tot Ls m ≤ tot Ls n := by
  induction n with
  | zero => have : m = 0 := by omega
            subst this; exact Nat.le_refl _
  | succ n ih =>
    by_cases e : m = n + 1
    · subst e; exact Nat.le_refl _
    · exact Nat.le_trans (ih (by omega)) (by show tot Ls n ≤ tot Ls n + _; omega)
theorem tot_at (Ls : Nat → Nat → Int) {s k i : Nat} (hs : s < k) (hi : i < 256) (h : Ls s i ≠ 0) : tot Ls s + cnt (Ls s) i < tot Ls k := by
  have h1 := cnt_lt (Ls s) hi h
  have h2 := tot_mono Ls (show s + 1 ≤ k by omega)
  have h3 : tot Ls (s + 1) = tot Ls s + cnt (Ls s) 256 := rfl
  omega
theorem tot_le (Ls : Nat → Nat → Int) (k m : Nat) (h : ∀ s, s < k → cnt (Ls s) 256 ≤ m) : tot Ls k ≤ k * m := by
  induction k with
  | zero => show 0 ≤ _; omega
  | succ k ih =>
    have h1 := ih (fun s hs => h s (by omega))
    have h2 := h k (by omega)
    show tot Ls k + _ ≤ _
    rw [Nat.succ_mul]; omega
/-- What is packed: the places of the ones, and where each polynomial's end. -/
structure Pck (Ls : Nat → Nat → Int) (k o : Nat) (B : Nat → Int) : Prop where
  place : ∀ s i, s < k → i < 256 → Ls s i ≠ 0 → B (tot Ls s + cnt (Ls s) i) = (i : Int)
  ends : ∀ s, s < k → B (o + s) = (tot Ls (s + 1) : Int)
  rest : ∀ p, tot Ls k ≤ p → p < o → B p = 0
/-- As far as the ones ahead of place i of polynomial s. -/
structure Pcs (Ls : Nat → Nat → Int) (s i o : Nat) (B : Nat → Int) : Prop where
  place : ∀ t j, (t < s ∧ j < 256) ∨ (t = s ∧ j < i) → Ls t j ≠ 0 → B (tot Ls t + cnt (Ls t) j) = (j : Int)
  ends : ∀ t, t < s → B (o + t) = (tot Ls (t + 1) : Int)
  rest : ∀ p, tot Ls s + cnt (Ls s) i ≤ p → p < o → B p = 0
theorem Pcs.begin (Ls : Nat → Nat → Int) (o : Nat) : Pcs Ls 0 0 o (fun _ => 0) :=
  ⟨fun t j h _ => by omega, fun t h => by omega, fun _ _ _ => rfl⟩
theorem Pcs.skip {Ls : Nat → Nat → Int} {s i o : Nat} {B : Nat → Int} (h : Pcs Ls s i o B) (e : Ls s i = 0) : Pcs Ls s (i + 1) o B := by
  refine ⟨fun t j hj hn => ?_, h.ends, fun p h1 h2 => h.rest p (by rw [cnt_zero _ _ e] at h1; exact h1) h2⟩
  rcases hj with hj | ⟨rfl, hj⟩
  · exact h.place t j (Or.inl hj) hn
  · by_cases e2 : j = i
    · subst e2; exact absurd e hn
    · exact h.place t j (Or.inr ⟨rfl, by omega⟩) hn
theorem Pcs.step {Ls : Nat → Nat → Int} {s i o : Nat} {B : Nat → Int} (h : Pcs Ls s i o B) (hi : i < 256) (e : Ls s i ≠ 0) (ho : tot Ls s + cnt (Ls s) i < o) : Pcs Ls s (i + 1) o (upd B (tot Ls s + cnt (Ls s) i) (i : Int)) := by
  refine ⟨fun t j hj hn => ?_, fun t ht => ?_, fun p h1 h2 => ?_⟩
  · by_cases e2 : t = s ∧ j = i
    · obtain ⟨rfl, rfl⟩ := e2; exact upd_same ..
    · have hlt : tot Ls t + cnt (Ls t) j < tot Ls s + cnt (Ls s) i := by
        rcases hj with ⟨h1, h2⟩ | ⟨rfl, h2⟩
        · have := tot_at Ls h1 h2 hn; omega
        · have := cnt_lt (Ls t) (show j < i by omega) hn; omega
      rw [upd_ne _ _ _ _ (by omega)]
      refine h.place t j ?_ hn
      rcases hj with h1 | ⟨rfl, h1⟩
      · exact Or.inl h1
      · exact Or.inr ⟨rfl, by omega⟩
  · rw [upd_ne _ _ _ _ (by omega)]; exact h.ends t ht
  · rw [cnt_one _ _ e] at h1
    rw [upd_ne _ _ _ _ (by omega)]; exact h.rest p (by omega) h2
theorem Pcs.next {Ls : Nat → Nat → Int} {s o : Nat} {B : Nat → Int} (h : Pcs Ls s 256 o B) (ho : tot Ls (s + 1) ≤ o) : Pcs Ls (s + 1) 0 o (upd B (o + s) (tot Ls (s + 1) : Int)) := by
  have h3 : tot Ls (s + 1) = tot Ls s + cnt (Ls s) 256 := rfl
  refine ⟨fun t j hj hn => ?_, fun t ht => ?_, fun p h1 h2 => ?_⟩
  · have hj' : t < s + 1 ∧ j < 256 := by omega
    have := tot_at Ls hj'.1 hj'.2 hn
    rw [upd_ne _ _ _ _ (by omega)]
    exact h.place t j (by omega) hn
  · by_cases e : t = s
    · subst e; exact upd_same ..
    · rw [upd_ne _ _ _ _ (by omega)]; exact h.ends t (by omega)
  · rw [upd_ne _ _ _ _ (by omega)]
    exact h.rest p (by show _ ≤ p; have : tot Ls (s + 1) + 0 ≤ p := h1; omega) h2
theorem Pcs.whole {Ls : Nat → Nat → Int} {k o : Nat} {B : Nat → Int} (h : Pcs Ls k 0 o B) : Pck Ls k o B :=
  ⟨fun s i hs hi hn => h.place s i (Or.inl ⟨hs, hi⟩) hn, h.ends, fun p h1 h2 => h.rest p h1 h2⟩
/-- Each place of a polynomial's is below the next. -/
theorem Pck.rise {Ls : Nat → Nat → Int} {k o : Nat} {B : Nat → Int} (h : Pck Ls k o B) {s j : Nat} (hs : s < k) (hj : j + 1 < cnt (Ls s) 256) : B (tot Ls s + j) < B (tot Ls s + (j + 1)) := by
  obtain ⟨a, a1, a2, a3⟩ := cnt_nth (Ls s) 256 j (by omega)
  obtain ⟨b, b1, b2, b3⟩ := cnt_nth (Ls s) 256 (j + 1) hj
  have h1 := h.place s a hs a1 a2
  have h2 := h.place s b hs b1 b2
  rw [a3] at h1; rw [b3] at h2
  rw [h1, h2]
  have := cnt_order (Ls s) (show cnt (Ls s) a < cnt (Ls s) b by omega)
  omega
/-- As far as the first j ones are read. -/
def rdTo (f : Nat → Int) (j : Nat) : Nat → Int := fun i => if f i ≠ 0 ∧ cnt f i < j then 1 else 0
theorem rdTo_step (f : Nat → Int) (j p : Nat) (hp : f p ≠ 0) (hc : cnt f p = j) (i : Nat) : upd (rdTo f j) p 1 i = rdTo f (j + 1) i := by
  unfold upd rdTo
  by_cases e : i = p
  · subst e; rw [if_pos rfl, if_pos ⟨hp, by omega⟩]
  · rw [if_neg e]
    by_cases e1 : f i ≠ 0 ∧ cnt f i < j
    · rw [if_pos e1, if_pos ⟨e1.1, by omega⟩]
    · rw [if_neg e1, if_neg (fun h => e1 ⟨h.1, by
        have : cnt f i ≠ j := fun h2 => e (cnt_inj f h.1 hp (by omega))
        have := h.2; omega⟩)]
theorem rdTo_none (f : Nat → Int) (i : Nat) : rdTo f 0 i = 0 := by unfold rdTo; rw [if_neg (fun h => by omega)]
theorem rdTo_all (f : Nat → Int) (h01 : ∀ i, i < 256 → f i = 0 ∨ f i = 1) (i : Nat) (hi : i < 256) : rdTo f (cnt f 256) i = f i := by
  unfold rdTo
  rcases h01 i hi with h | h
  · rw [if_neg (fun h2 => h2.1 h), h]
  · rw [if_pos ⟨by omega, cnt_lt f hi (by omega)⟩, h]
end Go.Proofs.YtkijpphmiogbbabDoor
