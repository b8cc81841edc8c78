import Derived.Test.YtkijpphmiogbbaaGreatDoorM29
import Derived.Test.YtkijpphmiogbbaaGreatDoorM30
import Derived.Test.YtkijpphmiogbbaaGreatDoorM20
namespace Go.Proofs.YtkijpphmiogbbaaGreatDoor

/-- The high part that a hint tells of. -/
def useI (g h r : Int) : Int := if h = 0 then decH g r else if 0 < decL g r then (decH g r + 1) % (8380416 / (2 * g)) else (decH g r + 8380416 / (2 * g) - 1) % (8380416 / (2 * g))
/-- The hint of r and r + z. -/
def hintI (g z r : Int) : Int := if decH g r = decH g ((r + z) % 8380417) then 0 else 1
theorem dec_form (g a : Int) (hg : g = 95232 ∨ g = 261888) (ha : 0 ≤ a) (ha' : a < 8380417) :
    (a = decH g a * (2 * g) + decL g a ∧ 0 ≤ decH g a ∧ decH g a < 8380416 / (2 * g) ∧ -g < decL g a ∧ decL g a ≤ g) ∨ (decH g a = 0 ∧ a = decL g a + 8380417 ∧ -g ≤ decL g a ∧ decL g a < 0) := by
  have hb := dec_bounds g a hg ha ha'
  unfold decH decL cenI at *
  rcases hg with rfl | rfl
  · simp only [show (2 : Int) * 95232 = 190464 from rfl, show (8380416 : Int) / 190464 = 44 from rfl, show (190464 : Int) / 2 = 95232 from rfl] at *
    by_cases h : 95232 < a % 190464
    · rw [if_pos h] at *
      split at * <;> omega
    · rw [if_neg h] at *
      split at * <;> omega
  · simp only [show (2 : Int) * 261888 = 523776 from rfl, show (8380416 : Int) / 523776 = 16 from rfl, show (523776 : Int) / 2 = 261888 from rfl] at *
    by_cases h : 261888 < a % 523776
    · rw [if_pos h] at *
      split at * <;> omega
    · rw [if_neg h] at *
      split at * <;> omega
theorem hint_math (g z r : Int) (hg : g = 95232 ∨ g = 261888) (hr : 0 ≤ r) (hr' : r < 8380417) (hz : 0 ≤ z) (hz' : z < 8380417) (hs : z ≤ g ∨ 8380417 - g ≤ z) : useI g (hintI g z r) r = decH g ((r + z) % 8380417) := by
  have hq : 0 ≤ (r + z) % 8380417 ∧ (r + z) % 8380417 < 8380417 := ⟨Int.emod_nonneg _ (by omega), Int.emod_lt_of_pos _ (by omega)⟩
  have f1 := dec_form g r hg hr hr'
  have f2 := dec_form g ((r + z) % 8380417) hg hq.1 hq.2
  unfold hintI useI
  by_cases e : decH g r = decH g ((r + z) % 8380417)
  · rw [if_pos e, if_pos rfl]; exact e
  · rw [if_neg e, if_neg (by omega)]
    have e' : (r + z) % 8380417 = r + z ∨ (r + z) % 8380417 = r + z - 8380417 := by omega
    generalize (r + z) % 8380417 = t at *
    generalize decH g t = h2 at *
    generalize decL g t = l2 at *
    generalize decH g r = h1 at *
    generalize decL g r = l1 at *
    rcases hg with rfl | rfl
    · simp only [show (2 : Int) * 95232 = 190464 from rfl, show (8380416 : Int) / 190464 = 44 from rfl] at *
      split <;> omega
    · simp only [show (2 : Int) * 261888 = 523776 from rfl, show (8380416 : Int) / 523776 = 16 from rfl] at *
      split <;> omega

/-- How many of the first n are not 0. -/
def cnt (f : Nat → Int) : Nat → Nat
  | 0 => 0
  | n + 1 => cnt f n + if f n = 0 then 0 else 1
theorem cnt_mono (f : Nat → Int) {m n : Nat} (h : m ≤ n) : cnt f m ≤ cnt f n := by
  induction n with
  | zero => have : m = 0 := by omega
            subst this; exact Nat.le_refl _
  | succ n ih =>
    by_cases e : m = n + 1
    · subst e; exact Nat.le_refl _
    · exact Nat.le_trans (ih (by omega)) (by show cnt f n ≤ cnt f n + _; omega)
theorem cnt_one (f : Nat → Int) (n : Nat) (h : f n ≠ 0) : cnt f (n + 1) = cnt f n + 1 := by show cnt f n + _ = _; rw [if_neg h]
theorem cnt_zero (f : Nat → Int) (n : Nat) (h : f n = 0) : cnt f (n + 1) = cnt f n := by show cnt f n + _ = _; rw [if_pos h]; rfl
theorem cnt_lt (f : Nat → Int) {i n : Nat} (hi : i < n) (h : f i ≠ 0) : cnt f i < cnt f n := by
  have := cnt_mono f (show i + 1 ≤ n by omega)
  rw [cnt_one f i h] at this; omega
theorem cnt_ext {f h : Nat → Int} (n : Nat) (e : ∀ i, i < n → f i = h i) : cnt f n = cnt h n := by
  induction n with
  | zero => rfl
  | succ n ih => show cnt f n + _ = cnt h n + _; rw [ih (fun i hi => e i (by omega)), e n (by omega)]
theorem cnt_upd (f : Nat → Int) (p : Nat) (v : Int) (n : Nat) : cnt (upd f p v) n ≤ cnt f n + 1 := by
  by_cases hp : p < n
  · induction n with
    | zero => omega
    | succ n ih =>
      by_cases e : p = n
      · subst e
        have h1 : cnt (upd f p v) p = cnt f p := cnt_ext p (fun i hi => upd_ne _ _ _ _ (by omega))
        show cnt (upd f p v) p + _ ≤ cnt f p + _ + 1
        rw [h1]; split <;> split <;> omega
      · have h1 := ih (by omega)
        show cnt (upd f p v) n + _ ≤ cnt f n + _ + 1
        rw [upd_ne f p n v (by omega)]; omega
  · rw [cnt_ext n (fun i hi => upd_ne f p i v (by omega))]; omega
theorem cnt_none (n : Nat) : cnt (fun _ => 0) n = 0 := by
  induction n with
  | zero => rfl
  | succ n ih => rw [cnt_zero (fun _ => 0) n rfl, ih]
/-- The n-th one. -/
theorem cnt_nth (f : Nat → Int) (m n : Nat) (h : n < cnt f m) : ∃ i, i < m ∧ f i ≠ 0 ∧ cnt f i = n := by
  induction m with
  | zero => exact absurd h (by show ¬ n < 0; omega)
  | succ m ih =>
    by_cases e : f m = 0
    · rw [cnt_zero f m e] at h
      obtain ⟨i, h1, h2, h3⟩ := ih h
      exact ⟨i, by omega, h2, h3⟩
    · rw [cnt_one f m e] at h
      by_cases e2 : n < cnt f m
      · obtain ⟨i, h1, h2, h3⟩ := ih e2
        exact ⟨i, by omega, h2, h3⟩
      · exact ⟨m, by omega, e, by omega⟩
theorem cnt_inj (f : Nat → Int) {i j : Nat} (hi : f i ≠ 0) (hj : f j ≠ 0) (h : cnt f i = cnt f j) : i = j := by
  rcases Nat.lt_trichotomy i j with h1 | h1 | h1
  · have := cnt_lt f h1 hi; omega
  · exact h1
  · have := cnt_lt f h1 hj; omega
theorem cnt_order (f : Nat → Int) {i j : Nat} (h : cnt f i < cnt f j) : i < j := by
  rcases Nat.lt_or_ge i j with h1 | h1
  · exact h1
  · have := cnt_mono f h1; omega
/-- How many in the first s polynomials. -/
def tot (Ls : Nat → Nat → Int) : Nat → Nat
  | 0 => 0
  | s + 1 => tot Ls s + cnt (Ls s) 256
theorem tot_mono (Ls : Nat → Nat → Int) {m n : Nat} (h : m ≤ n) : tot Ls m ≤ tot Ls n := by
  induction n with
  | zero => have : m = 0 := by omega
            subst this; exact Nat.le_refl _
  | succ n ih =>
    by_cases e : m = n + 1
    · subst e; exact Nat.le_refl _
    · exact Nat.le_trans (ih (by omega)) (by show tot Ls n ≤ tot Ls n + _; omega)
theorem tot_at (Ls : Nat → Nat → Int) {s k i : Nat} (hs : s < k) (hi : i < 256) (h : Ls s i ≠ 0) : tot Ls s + cnt (Ls s) i < tot Ls k := by
  have h1 := cnt_lt (Ls s) hi h
  have h2 := tot_mono Ls (show s + 1 ≤ k by omega)
  have h3 : tot Ls (s + 1) = tot Ls s + cnt (Ls s) 256 := rfl
  omega
theorem tot_le (Ls : Nat → Nat → Int) (k m : Nat) (h : ∀ s, s < k → cnt (Ls s) 256 ≤ m) : tot Ls k ≤ k * m := by
  induction k with
  | zero => show 0 ≤ _; omega
  | succ k ih =>
    have h1 := ih (fun s hs => h s (by omega))
    have h2 := h k (by omega)
    show tot Ls k + _ ≤ _
    rw [Nat.succ_mul]; omega
/-- What is packed: the places of the ones, and where each polynomial's end. -/
structure Pck (Ls : Nat → Nat → Int) (k o : Nat) (B : Nat → Int) : Prop where
  place : ∀ s i, s < k → i < 256 → Ls s i ≠ 0 → B (tot Ls s + cnt (Ls s) i) = (i : Int)
  ends : ∀ s, s < k → B (o + s) = (tot Ls (s + 1) : Int)
  rest : ∀ p, tot Ls k ≤ p → p < o → B p = 0
/-- As far as the ones ahead of place i of polynomial s. -/
structure Pcs (Ls : Nat → Nat → Int) (s i o : Nat) (B : Nat → Int) : Prop where
  place : ∀ t j, (t < s ∧ j < 256) ∨ (t = s ∧ j < i) → Ls t j ≠ 0 → B (tot Ls t + cnt (Ls t) j) = (j : Int)
  ends : ∀ t, t < s → B (o + t) = (tot Ls (t + 1) : Int)
  rest : ∀ p, tot Ls s + cnt (Ls s) i ≤ p → p < o → B p = 0
theorem Pcs.begin (Ls : Nat → Nat → Int) (o : Nat) : Pcs Ls 0 0 o (fun _ => 0) :=
  ⟨fun t j h _ => by omega, fun t h => by omega, fun _ _ _ => rfl⟩
theorem Pcs.skip {Ls : Nat → Nat → Int} {s i o : Nat} {B : Nat → Int} (h : Pcs Ls s i o B) (e : Ls s i = 0) : Pcs Ls s (i + 1) o B := by
  refine ⟨fun t j hj hn => ?_, h.ends, fun p h1 h2 => h.rest p (by rw [cnt_zero _ _ e] at h1; exact h1) h2⟩
  rcases hj with hj | ⟨rfl, hj⟩
  · exact h.place t j (Or.inl hj) hn
  · by_cases e2 : j = i
    · subst e2; exact absurd e hn
    · exact h.place t j (Or.inr ⟨rfl, by omega⟩) hn
theorem Pcs.step {Ls : Nat → Nat → Int} {s i o : Nat} {B : Nat → Int} (h : Pcs Ls s i o B) (hi : i < 256) (e : Ls s i ≠ 0) (ho : tot Ls s + cnt (Ls s) i < o) : Pcs Ls s (i + 1) o (upd B (tot Ls s + cnt (Ls s) i) (i : Int)) := by
  refine ⟨fun t j hj hn => ?_, fun t ht => ?_, fun p h1 h2 => ?_⟩
  · by_cases e2 : t = s ∧ j = i
    · obtain ⟨rfl, rfl⟩ := e2; exact upd_same ..
    · have hlt : tot Ls t + cnt (Ls t) j < tot Ls s + cnt (Ls s) i := by
        rcases hj with ⟨h1, h2⟩ | ⟨rfl, h2⟩
        · have := tot_at Ls h1 h2 hn; omega
        · have := cnt_lt (Ls t) (show j < i by omega) hn; omega
      rw [upd_ne _ _ _ _ (by omega)]
      refine h.place t j ?_ hn
      rcases hj with h1 | ⟨rfl, h1⟩
      · exact Or.inl h1
      · exact Or.inr ⟨rfl, by omega⟩
  · rw [upd_ne _ _ _ _ (by omega)]; exact h.ends t ht
  · rw [cnt_one _ _ e] at h1
    rw [upd_ne _ _ _ _ (by omega)]; exact h.rest p (by omega) h2
theorem Pcs.next {Ls : Nat → Nat → Int} {s o : Nat} {B : Nat → Int} (h : Pcs Ls s 256 o B) (ho : tot Ls (s + 1) ≤ o) : Pcs Ls (s + 1) 0 o (upd B (o + s) (tot Ls (s + 1) : Int)) := by
  have h3 : tot Ls (s + 1) = tot Ls s + cnt (Ls s) 256 := rfl
  refine ⟨fun t j hj hn => ?_, fun t ht => ?_, fun p h1 h2 => ?_⟩
  · have hj' : t < s + 1 ∧ j < 256 := by omega
    have := tot_at Ls hj'.1 hj'.2 hn
    rw [upd_ne _ _ _ _ (by omega)]
    exact h.place t j (by omega) hn
  · by_cases e : t = s
    · subst e; exact upd_same ..
    · rw [upd_ne _ _ _ _ (by omega)]; exact h.ends t (by omega)
  · rw [upd_ne _ _ _ _ (by omega)]
    exact h.rest p (by show _ ≤ p; have : tot Ls (s + 1) + 0 ≤ p := h1; omega) h2
theorem Pcs.whole {Ls : Nat → Nat → Int} {k o : Nat} {B : Nat → Int} (h : Pcs Ls k 0 o B) : Pck Ls k o B :=
  ⟨fun s i hs hi hn => h.place s i (Or.inl ⟨hs, hi⟩) hn, h.ends, fun p h1 h2 => h.rest p h1 h2⟩
/-- Each place of a polynomial's is below the next. -/
theorem Pck.rise {Ls : Nat → Nat → Int} {k o : Nat} {B : Nat → Int} (h : Pck Ls k o B) {s j : Nat} (hs : s < k) (hj : j + 1 < cnt (Ls s) 256) : B (tot Ls s + j) < B (tot Ls s + (j + 1)) := by
  obtain ⟨a, a1, a2, a3⟩ := cnt_nth (Ls s) 256 j (by omega)
  obtain ⟨b, b1, b2, b3⟩ := cnt_nth (Ls s) 256 (j + 1) hj
  have h1 := h.place s a hs a1 a2
  have h2 := h.place s b hs b1 b2
  rw [a3] at h1; rw [b3] at h2
  rw [h1, h2]
  have := cnt_order (Ls s) (show cnt (Ls s) a < cnt (Ls s) b by omega)
  omega
/-- As far as the first j ones are read. -/
def rdTo (f : Nat → Int) (j : Nat) : Nat → Int := fun i => if f i ≠ 0 ∧ cnt f i < j then 1 else 0
theorem rdTo_step (f : Nat → Int) (j p : Nat) (hp : f p ≠ 0) (hc : cnt f p = j) (i : Nat) : upd (rdTo f j) p 1 i = rdTo f (j + 1) i := by
  unfold upd rdTo
  by_cases e : i = p
  · subst e; rw [if_pos rfl, if_pos ⟨hp, by omega⟩]
  · rw [if_neg e]
    by_cases e1 : f i ≠ 0 ∧ cnt f i < j
    · rw [if_pos e1, if_pos ⟨e1.1, by omega⟩]
    · rw [if_neg e1, if_neg (fun h => e1 ⟨h.1, by
        have : cnt f i ≠ j := fun h2 => e (cnt_inj f h.1 hp (by omega))
        have := h.2; omega⟩)]
theorem rdTo_none (f : Nat → Int) (i : Nat) : rdTo f 0 i = 0 := by unfold rdTo; rw [if_neg (fun h => by omega)]
theorem rdTo_all (f : Nat → Int) (h01 : ∀ i, i < 256 → f i = 0 ∨ f i = 1) (i : Nat) (hi : i < 256) : rdTo f (cnt f 256) i = f i := by
  unfold rdTo
  rcases h01 i hi with h | h
  · rw [if_neg (fun h2 => h2.1 h), h]
  · rw [if_pos ⟨by omega, cnt_lt f hi (by omega)⟩, h]
end Go.Proofs.YtkijpphmiogbbaaGreatDoor

namespace Go.Proofs.YtkijpphmiogbbaaGreatDoor
open Go.RowKit
attribute [local go_sem ↓] Go.wp_at_zero Go.wp_at_succ

/-- A set of parameters in block b. -/
structure SetAt (W : World) (b : Nat) (g k o : Int) : Prop where
  g : W.cell? ⟨b, 0, none⟩ = some (.int .i64 g)
  k : W.cell? ⟨b, 1, none⟩ = some (.int .i64 k)
  o : W.cell? ⟨b, 2, none⟩ = some (.int .i64 o)
theorem SetAt.far {W W' : World} {b : Nat} {g k o : Int} {r : Option Nat} (h : SetAt W b g k o) (hg : W.grownBy W' r) (hne : some b ≠ r) : SetAt W' b g k o := ⟨hg.cell h.g hne, hg.cell h.k hne, hg.cell h.o hne⟩
theorem SetAt.new {W W' : World} {b : Nat} {g k o : Int} (h : SetAt W b g k o) (hg : W.grownBy W' none) : SetAt W' b g k o := h.far hg (by simp)
theorem SetAt.set_other {W : World} {b : Nat} {g k o : Int} (h : SetAt W b g k o) {p : Addr} (hp : p.block ≠ b) (v : Value) : SetAt (W.setCell p v) b g k o :=
  ⟨by rw [cell_other _ _ _ _ (Or.inl (Ne.symm hp))]; exact h.g, by rw [cell_other _ _ _ _ (Or.inl (Ne.symm hp))]; exact h.k, by rw [cell_other _ _ _ _ (Or.inl (Ne.symm hp))]; exact h.o⟩
theorem setAt_new (w : World) (g k o : Int) (T : TypeId) : SetAt (w.alloc (.cells #[.int .i64 g, .int .i64 k, .int .i64 o] T)) w.heap.size g k o :=
  ⟨by rw [World.cell?_alloc_new]; rfl, by rw [World.cell?_alloc_new]; rfl, by rw [World.cell?_alloc_new]; rfl⟩
theorem hk4 {W W' : World} {p q r s : Addr} {a b c d : Value} (h : W.cell? p = some a ∧ W.cell? q = some b ∧ W.cell? r = some c ∧ W.cell? s = some d) (hg : W.grownBy W' none) : W'.cell? p = some a ∧ W'.cell? q = some b ∧ W'.cell? r = some c ∧ W'.cell? s = some d :=
  ⟨hg.cell h.1 (by simp), hg.cell h.2.1 (by simp), hg.cell h.2.2.1 (by simp), hg.cell h.2.2.2 (by simp)⟩
theorem hk5 {W W' : World} {p q r s t : Addr} {a b c d e : Value} (h : W.cell? p = some a ∧ W.cell? q = some b ∧ W.cell? r = some c ∧ W.cell? s = some d ∧ W.cell? t = some e) (hg : W.grownBy W' none) : W'.cell? p = some a ∧ W'.cell? q = some b ∧ W'.cell? r = some c ∧ W'.cell? s = some d ∧ W'.cell? t = some e :=
  ⟨hg.cell h.1 (by simp), hg.cell h.2.1 (by simp), hg.cell h.2.2.1 (by simp), hg.cell h.2.2.2.1 (by simp), hg.cell h.2.2.2.2 (by simp)⟩
theorem cnt_le (f : Nat → Int) (n : Nat) : cnt f n ≤ n := by
  induction n with
  | zero => exact Nat.le_refl _
  | succ n ih => show cnt f n + _ ≤ n + 1; split <;> omega
theorem mix_none (M : Nat → Int) (k : Nat) (h : M k = 0) (j : Nat) : (if j < k then M j else 0) = if j < k + 1 then M j else 0 := by
  by_cases e : j = k
  · subst e; rw [if_neg (by omega), if_pos (by omega), h]
  · by_cases e2 : j < k
    · rw [if_pos e2, if_pos (by omega)]
    · rw [if_neg e2, if_neg (by omega)]
set_option maxHeartbeats 2000000 in
set_option maxRecDepth 20000 in
theorem sHint_any (Z R : Nat → Int) (g kk o : Int) (w : World) (hg0 : g = 95232 ∨ g = 261888) (hZ : ∀ i, i < 256 → 0 ≤ Z i ∧ Z i < 8380417) (hR : ∀ i, i < 256 → 0 ≤ R i ∧ R i < 8380417) :
    Calls Tryz.prog 134 #[.agg #[.int .i64 g, .int .i64 kk, .int .i64 o], .agg (polyA .u32 Z), .agg (polyA .u32 R)] w fun e w' => e = .returned (.tuple #[.agg (polyA .u32 (fun i => hintI g (Z i) (R i))), .int .i64 (cnt (fun i => hintI g (Z i) (R i)) 256 : Nat)]) ∧ w.grownBy w' none := by
  have HZ : Hid (∀ i, i < 256 → 0 ≤ Z i ∧ Z i < 8380417) := hZ
  have HR : Hid (∀ i, i < 256 → 0 ≤ R i ∧ R i < 8380417) := hR
  have HP : Hid (∀ a W, 0 ≤ a → a < 8380417 → Calls Tryz.prog 211 #[.agg #[.int .i64 g, .int .i64 kk, .int .i64 o], .int .i64 a] W fun e w' => e = .returned (.tuple #[.int .i64 (decH g a), .int .i64 (decL g a)]) ∧ W.grownBy w' none) := fun a W h0 h1 => part_any g kk o a W h0 (by omega) (by omega) (by omega)
  clear hZ hR hg0
  have s1 := setAt_new w g kk o 176
  have g1 := World.grownBy_alloc w (.cells #[.int .i64 g, .int .i64 kk, .int .i64 o] 176) none
  have e1 := World.size_alloc w (.cells #[.int .i64 g, .int .i64 kk, .int .i64 o] 176)
  go_enter Tryz.func134, Tryz.ntmps134
  go_wp2
  generalize w.alloc (.cells #[.int .i64 g, .int .i64 kk, .int .i64 o] 176) = w1 at *
  have n2 := new_alloc .u32 w1 Z 166
  generalize w1.alloc (.cells (polyA .u32 Z) 166) = w2 at *
  have n3 := new_alloc .u32 w2 R 166
  generalize w2.alloc (.cells (polyA .u32 R) 166) = w3 at *
  have n4 := new_alloc .u32 w3 (fun _ => 0) 166
  rw [← Tryz.zQ32] at n4
  generalize w3.alloc (.cells Tryz.zeroCells166 166) = w4 at *
  have hS := ((s1.new n2.g).new n3.g).new n4.g
  have hz := (n2.r.new n3.g).new n4.g
  have hr := n3.r.new n4.g
  have hA := n4.r
  have hg := grownBy_trans g1 (grownBy_trans n2.g (grownBy_trans n3.g n4.g))
  rw [n2.s] at hr
  rw [n3.s, n2.s] at hA
  rw [e1] at hz hr hA
  clear s1 g1 e1 n2 n3 n4
  obtain ⟨B, hB⟩ : ∃ B, B = w.heap.size := ⟨_, rfl⟩
  rw [← hB] at hS hz hr hA ⊢
  have hB' : w.heap.size ≤ B := by omega
  clear hB
  go_loopw [7, 8, 9, 10, 11, 12, 13] (fun c _ _ _ _ _ i wr => ∃ k : Nat, k ≤ 256 ∧ i = .int .i64 k ∧ c = .int .i64 (cnt (fun i => hintI g (Z i) (R i)) k : Nat) ∧ w.grownBy wr none ∧ SetAt wr B g kk o ∧ PRow .u32 wr (B + 1) 0 Z ∧ PRow .u32 wr (B + 1 + 1) 0 R ∧ PRow .u32 wr (B + 1 + 1 + 1) 0 (fun j => if j < k then hintI g (Z j) (R j) else 0)) (fun _ _ _ _ _ _ i _ => 256 - (intOf i).toNat)
  case atStart => exact ⟨0, by omega, rfl, rfl, hg, hS, hz, hr, hA.ext (fun j _ => by simp)⟩
  case round =>
    clear hS hz hr hA hg
    obtain ⟨k, hk, rfl, rfl, hg, hS, hz, hr, hA⟩ := hrel
    by_cases hlt : k < 256
    · have b0 : (0 : Int) ≤ (k : Int) := by omega
      have b1 : (k : Int) < 256 := by omega
      have z0 := (HZ.out k hlt).1
      have z1 := (HZ.out k hlt).2
      have r0 := (HR.out k hlt).1
      have r1 := (HR.out k hlt).2
      have cz := (hz.at0 k hlt).1
      have cr := (hr.at0 k hlt).1
      have c0 := hS.g
      have c1 := hS.k
      have c2 := hS.o
      have cv : IntKind.i64.wrap (R k) = R k := by rw [IntKind.wrap_i64] <;> omega
      obtain ⟨t, ht⟩ : ∃ t, t = (R k + Z k) % 8380417 := ⟨_, rfl⟩
      have t0 : 0 ≤ t := by rw [ht]; exact Int.emod_nonneg _ (by omega)
      have t1 : t < 8380417 := by rw [ht]; exact Int.emod_lt_of_pos _ (by omega)
      have cw : IntKind.u32.wrap (R k + Z k) = R k + Z k := by rw [IntKind.wrap_u32]; omega
      have ce : (R k + Z k) % 4294967296 = R k + Z k := by omega
      have ct : IntKind.i64.wrap t = t := by rw [IntKind.wrap_i64] <;> omega
      have HP1 : Hid (∀ W, Calls Tryz.prog 211 #[.agg #[.int .i64 g, .int .i64 kk, .int .i64 o], .int .i64 (R k)] W fun e w' => e = .returned (.tuple #[.int .i64 (decH g (R k)), .int .i64 (decL g (R k))]) ∧ W.grownBy w' none) := fun W => HP.out (R k) W r0 r1
      have HP2 : Hid (∀ W, Calls Tryz.prog 211 #[.agg #[.int .i64 g, .int .i64 kk, .int .i64 o], .int .i64 t] W fun e w' => e = .returned (.tuple #[.int .i64 (decH g t), .int .i64 (decL g t)]) ∧ W.grownBy w' none) := fun W => HP.out t W t0 t1
      go_wp2_with fail
      go_region_held3 (fun W => W.cell? ⟨B, 0, none⟩ = some (.int .i64 g) ∧ W.cell? ⟨B, 1, none⟩ = some (.int .i64 kk) ∧ W.cell? ⟨B, 2, none⟩ = some (.int .i64 o) ∧ W.cell? ⟨B + 1 + 1, k, none⟩ = some (.int .u32 (R k))) (first | go_keep | exact hk4 (by assumption) (by assumption)) (first | (go_at_call 211; refine (HP1.out _).mono ?_; rintro e w5 ⟨rfl, g5⟩))
      replace c0 := g5.cell (show wr.drew.cell? _ = _ from c0) (by simp)
      replace c1 := g5.cell (show wr.drew.cell? _ = _ from c1) (by simp)
      replace c2 := g5.cell (show wr.drew.cell? _ = _ from c2) (by simp)
      replace cr := g5.cell (show wr.drew.cell? _ = _ from cr) (by simp)
      replace cz := g5.cell (show wr.drew.cell? _ = _ from cz) (by simp)
      have ct2 : (R k + Z k).tmod 8380417 = t := by rw [Int.tmod_eq_emod_of_nonneg (by omega)]; exact ht.symm
      have g5r : wr.grownBy w5 none := grownBy_trans (grown_drew (World.grownBy.refl wr none)) g5
      have HK : Hid (w.grownBy w5 none ∧ SetAt w5 B g kk o ∧ PRow .u32 w5 (B + 1) 0 Z ∧ PRow .u32 w5 (B + 1 + 1) 0 R ∧ PRow .u32 w5 (B + 1 + 1 + 1) 0 (fun j => if j < k then hintI g (Z j) (R j) else 0)) := ⟨grownBy_trans hg g5r, hS.new g5r, hz.new g5r, hr.new g5r, hA.new g5r⟩
      have HT : Hid (t = (R k + Z k) % 8380417) := ht
      clear hS hz hr hA hg g5 g5r HP HP1 ht HZ HR
      go_wp2_with fail
      go_region_held3 (fun W => W.cell? ⟨B, 0, none⟩ = some (.int .i64 g) ∧ W.cell? ⟨B, 1, none⟩ = some (.int .i64 kk) ∧ W.cell? ⟨B, 2, none⟩ = some (.int .i64 o) ∧ W.cell? ⟨B + 1 + 1, k, none⟩ = some (.int .u32 (R k)) ∧ W.cell? ⟨B + 1, k, none⟩ = some (.int .u32 (Z k))) (first | go_keep | exact hk5 (by assumption) (by assumption)) (first | (go_at_call 211; refine (HP2.out _).mono ?_; rintro e w6 ⟨rfl, g6⟩))
      have g56 : w5.grownBy w6 none := grownBy_trans (grown_drew (World.grownBy.refl w5 none)) g6
      have ht := HT.out
      have hS6 := HK.out.2.1.new g56
      have hz6 := HK.out.2.2.1.new g56
      have hr6 := HK.out.2.2.2.1.new g56
      have hA6 := HK.out.2.2.2.2.new g56
      have hg6 := grownBy_trans HK.out.1 g56
      clear g56 g6 c0 c1 c2 cr cz HP2 HK HT
      have cc := (hA6.at0 k hlt).1
      have ff := (hA6.at0 k hlt).2
      by_cases he : decH g (R k) = decH g t
      · have hh : hintI g (Z k) (R k) = 0 := by unfold hintI; rw [← ht, if_pos he]
        have hcn := cnt_zero (fun i => hintI g (Z i) (R i)) k hh
        rw [he]
        clear he ht
        go_wp2
        go_roundw
        case rel =>
          exact ⟨k + 1, by omega, by go_num, by rw [hcn], hg6, hS6, hz6, hr6, hA6.ext (fun j _ => mix_none (fun j => hintI g (Z j) (R j)) k hh j)⟩
        case measure => simp [intOf]; omega
      · have hh : hintI g (Z k) (R k) = 1 := by unfold hintI; rw [← ht, if_neg he]
        have hd : (decH g (R k) == decH g t) = false := by simpa using he
        have hcn := cnt_one (fun i => hintI g (Z i) (R i)) k (by show hintI g (Z k) (R k) ≠ 0; omega)
        have hcl := cnt_mono (fun i => hintI g (Z i) (R i)) (show k ≤ 256 by omega)
        have hcm : cnt (fun i => hintI g (Z i) (R i)) k ≤ k := cnt_le _ k
        have hd3 : (decH g (R k) != decH g t) = true := by simpa using he
        clear ht he
        obtain ⟨c, hc⟩ : ∃ c, c = cnt (fun i => hintI g (Z i) (R i)) k := ⟨_, rfl⟩
        rw [← hc] at hcm hcn ⊢
        clear hcl
        go_wp2
        go_roundw
        case rel =>
          have hA7 : PRow .u32 (w6.setCell ⟨B + 1 + 1 + 1, k, none⟩ (.int .u32 1)) (B + 1 + 1 + 1) 0 (fun j => if j < k + 1 then hintI g (Z j) (R j) else 0) := (hA6.set0 hlt 1).ext (fun j _ => by have := mix_step (fun j => hintI g (Z j) (R j)) (fun _ => 0) k j; rw [hh] at this; exact this)
          exact ⟨k + 1, by omega, by go_num, by rw [hcn]; go_num, grown_setNew hg6 (by simp; omega) _, hS6.set_other (by simp <;> omega) _, hz6.set_other (by simp <;> omega) _, hr6.set_other (by simp <;> omega) _, hA7⟩
        case measure => simp [intOf]; omega
    · have hk6 : k = 256 := by omega
      subst hk6
      have hA' : PRow .u32 wr (B + 1 + 1 + 1) 0 (fun i => hintI g (Z i) (R i)) := hA.ext (fun j hj => by simp [hj])
      clear hA
      go_wp2_with (first | (refine wpL_load rfl .u32 166 _ rfl (B + 1 + 1 + 1) 0 rfl _ hA' Tryz.oQ32 Tryz.sQ32 ?_) | (refine wpL_store rfl .u32 166 _ _ rfl (B + 1 + 1 + 1) 0 rfl _ rfl .u32 _ hA' Tryz.sQ32 ?_; intro w7 p7))
      refine bodyPost_ret (res2 rfl .u32 _ w7 (B + 1 + 1 + 1) _ _ rfl rfl p7.r Tryz.oQ32 Tryz.sQ32) rfl ⟨rfl, grown_new hg p7.g (by omega)⟩
end Go.Proofs.YtkijpphmiogbbaaGreatDoor
