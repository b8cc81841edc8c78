import Derived.Test.YtkijpphmiogbbaaGreatDoorH41
import Derived.Test.YtkijpphmiogbbaaGreatDoorH08
namespace Go.Proofs.YtkijpphmiogbbaaGreatDoor
open Go.RowKit

theorem take_next (X : List UInt8) (off k : Nat) (h : off + k < X.length) : (X.drop off).take (k + 1) = (X.drop off).take k ++ [X[off + k]] := by
  rw [List.take_succ_eq_append_getElem (by rw [List.length_drop]; omega), List.getElem_drop]
theorem absorb_in (X : List UInt8) (B : Nat → Int) (hB : ∀ j (h : j < X.length), B j = (X[j].toNat : Int)) {s : Spg} (hp : s.place = 0) (off : Nat) :
    ∀ k, k < s.rate → off + k ≤ X.length → absorbS s ((X.drop off).take k) = { s with L := mixTo s.L B off k, place := k }
  | 0, _, _ => by
    show s = Spg.mk s.L s.rate s.en 0 s.spent
    rw [← hp]
  | k + 1, hk, hX => by
    rw [take_next X off k (by omega), absorbS_append, absorb_in X B hB hp off k (by omega) (by omega)]
    have e : ∀ u : Spg, u.place + 1 ≠ u.rate → absorbS u [X[off + k]] = { mixS u u.place (X[off + k].toNat : Int) with place := u.place + 1 } := fun u hu => by
      show absorb1 u (X[off + k].toNat : Int) = _
      unfold absorb1; rw [if_neg hu]
    rw [e _ (show k + 1 ≠ s.rate by omega), ← hB (off + k) (by omega)]
    rfl
/-- A whole rate is taken. -/
theorem absorb_rate (X : List UInt8) (B : Nat → Int) (hB : ∀ j (h : j < X.length), B j = (X[j].toNat : Int)) {s : Spg} (hp : s.place = 0) (hr : 0 < s.rate) (off : Nat) (hX : off + s.rate ≤ X.length) :
    absorbS s ((X.drop off).take s.rate) = { s with L := permF (mixTo s.L B off s.rate) } := by
  obtain ⟨k, hk⟩ : ∃ k, s.rate = k + 1 := ⟨s.rate - 1, by omega⟩
  have e1 : (X.drop off).take s.rate = (X.drop off).take k ++ [X[off + k]] := by rw [hk]; exact take_next X off k (by omega)
  have e2 : mixTo s.L B off s.rate = mixTo s.L B off (k + 1) := by rw [hk]
  rw [e1, e2, absorbS_append, absorb_in X B hB hp off k (by omega) (by omega)]
  have e : ∀ u : Spg, u.place + 1 = u.rate → absorbS u [X[off + k]] = turnS (mixS u u.place (X[off + k].toNat : Int)) := fun u hu => by
    show absorb1 u (X[off + k].toNat : Int) = _
    unfold absorb1; rw [if_pos hu]
  rw [e _ (show k + 1 = s.rate by omega), ← hB (off + k) (by omega)]
  show Spg.mk (permF (mixTo s.L B off (k + 1))) s.rate s.en 0 s.spent = Spg.mk (permF (mixTo s.L B off (k + 1))) s.rate s.en s.place s.spent
  rw [hp]
theorem absorb_blocks (X : List UInt8) (B : Nat → Int) (hB : ∀ j (h : j < X.length), B j = (X[j].toNat : Int)) {s : Spg} (hp : s.place = 0) (hr : 0 < s.rate) :
    ∀ p, p * s.rate ≤ X.length → absorbS s (X.take (p * s.rate)) = { s with L := blkTo s.L B s.rate p }
  | 0, _ => by rw [Nat.zero_mul]; rfl
  | p + 1, h => by
    have e : (p + 1) * s.rate = p * s.rate + s.rate := by rw [Nat.add_mul, Nat.one_mul]
    rw [e] at h
    rw [e, List.take_add, absorbS_append, absorb_blocks X B hB hp hr p (by omega)]
    exact absorb_rate X B hB (s := { s with L := blkTo s.L B s.rate p }) hp hr (p * s.rate) h
end Go.Proofs.YtkijpphmiogbbaaGreatDoor

namespace Go.Proofs.YtkijpphmiogbbaaGreatDoor
open Go.RowKit

theorem absorb1_place {s : Spg} (h : Takes s) (c : Int) : (absorb1 s c).place = (s.place + 1) % s.rate := by
  have hp := h.p
  unfold absorb1
  by_cases e : s.place + 1 = s.rate
  · rw [if_pos e, e, Nat.mod_self]; rfl
  · rw [if_neg e, Nat.mod_eq_of_lt (by omega)]
theorem absorbS_place (l : List UInt8) : ∀ {s : Spg}, Takes s → (absorbS s l).place = (s.place + l.length) % s.rate := by
  induction l with
  | nil => intro s h; show s.place = _; rw [List.length_nil, Nat.add_zero, Nat.mod_eq_of_lt h.p]
  | cons x l ih =>
    intro s h
    show (absorbS (absorb1 s (x.toNat : Int)) l).place = _
    have h1 := absorb1_takes h (x.toNat : Int)
    rw [ih h1.1, h1.2.1, absorb1_place h, Nat.mod_add_mod, List.length_cons]
    congr 1
    omega
theorem padL_len (en : UInt8) (rate p : Nat) (h : p < rate) : (padL en rate p).length = rate - p := by
  unfold padL
  split
  · simp; omega
  · simp; omega
/-- A text with its end. -/
def padded (en : UInt8) (rate : Nat) (t : List UInt8) : List UInt8 := t ++ padL en rate (t.length % rate)
def padN (rate n : Nat) : Nat := (n / rate + 1) * rate
theorem padN_is (rate n : Nat) (hr : 0 < rate) : padN rate n = n + (rate - n % rate) ∧ n % rate < rate := by
  have h1 := Nat.div_add_mod n rate
  have h2 := Nat.mod_lt n hr
  unfold padN
  rw [Nat.add_mul, Nat.one_mul, Nat.mul_comm]
  omega
theorem padded_len (en : UInt8) (rate : Nat) (hr : 0 < rate) (t : List UInt8) : (padded en rate t).length = padN rate t.length := by
  have h := padN_is rate t.length hr
  unfold padded
  rw [List.length_append, padL_len _ _ _ h.2, h.1]
theorem padN_more (rate n m : Nat) (hr : 0 < rate) (h1 : n < m) (h2 : m ≤ padN rate n) : (0 < m % rate ↔ m < padN rate n) := by
  have h := padN_is rate n hr
  have h3 := Nat.div_add_mod n rate
  have h4 : m = rate * (n / rate) + (m - rate * (n / rate)) := by omega
  constructor
  · intro h5
    rcases Nat.lt_or_ge m (padN rate n) with h6 | h6
    · exact h6
    · have h7 : m = padN rate n := by omega
      rw [h7] at h5; unfold padN at h5; rw [Nat.mul_mod_left] at h5; omega
  · intro h5
    have h6 : m - rate * (n / rate) < rate := by omega
    rw [h4, Nat.mul_add_mod, Nat.mod_eq_of_lt h6]; omega
theorem start_ok (rate : Nat) (en : Int) (h0 : 0 < rate) (h1 : rate ≤ 200) : Takes (startS rate en) := ⟨h0, h1, h0⟩
/-- What the document's sponge makes of the blocks is what the program's makes of the text. -/
theorem padded_blocks (en : UInt8) (he : en = 6 ∨ en = 31) (rate : Nat) (h0 : 0 < rate) (h1 : rate ≤ 200) (h8 : rate % 8 = 0) (t : List UInt8) (B : Nat → Int) (hB : ∀ j (h : j < (padded en rate t).length), B j = ((padded en rate t)[j].toNat : Int)) :
    blkTo (fun _ => 0) B rate (t.length / rate + 1) = (finishS (absorbS (startS rate (en.toNat : Int)) t)).L := by
  have hT := start_ok rate (en.toNat : Int) h0 h1
  have hA := absorbS_takes t hT
  have hb := absorb_blocks (padded en rate t) B hB (s := startS rate (en.toNat : Int)) rfl h0 (t.length / rate + 1) (by rw [padded_len en rate h0 t]; exact Nat.le_refl _)
  have hl : (t.length / rate + 1) * (startS rate (en.toNat : Int)).rate = (padded en rate t).length := by rw [padded_len en rate h0 t]; rfl
  rw [hl, List.take_length] at hb
  unfold padded at hb
  rw [absorbS_append] at hb
  have hpl : (absorbS (startS rate (en.toNat : Int)) t).place = t.length % rate := by
    rw [absorbS_place t hT]; show (0 + t.length) % rate = _; rw [Nat.zero_add]
  have hpad := pad_is (s := absorbS (startS rate (en.toNat : Int)) t) hA.1 (inr_absorbS t inr_zero) (by rw [hA.2.1]; exact h8) en he (by rw [hA.2.2.1]; rfl)
  rw [hA.2.1, hpl] at hpad
  have hpad2 : absorbS (absorbS (startS rate (en.toNat : Int)) t) (padL en rate (t.length % rate)) = { finishS (absorbS (startS rate (en.toNat : Int)) t) with spent := (absorbS (startS rate (en.toNat : Int)) t).spent } := hpad
  rw [hpad2] at hb
  exact (congrArg Spg.L hb).symm
end Go.Proofs.YtkijpphmiogbbaaGreatDoor
