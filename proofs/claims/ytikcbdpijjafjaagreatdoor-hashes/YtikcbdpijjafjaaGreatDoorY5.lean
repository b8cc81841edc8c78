import Derived.Test.YtikcbdpijjafjaaGreatDoorY4
namespace Go.Proofs.YtikcbdpijjafjaaGreatDoor
open Go.RowKit

theorem take_next (X : List UInt8) (off k : Nat) (h : off + k < X.length) : (X.drop off).take (k + 1) = (X.drop off).take k ++ [X[off + k]] := by
  rw [List.take_succ_eq_append_getElem (by rw [List.length_drop]; omega), List.getElem_drop]
theorem absorb_in (X : List UInt8) (B : Nat → Int) (hB : ∀ j (h : j < X.length), B j = (X[j].toNat : Int)) {s : Spg} (hp : s.place = 0) (off : Nat) :
    ∀ k, k < s.rate → off + k ≤ X.length → absorbS s ((X.drop off).take k) = { s with L := mixTo s.L B off k, place := k }
  | 0, _, _ => by
    show s = Spg.mk s.L s.rate s.en 0 s.spent
    rw [← hp]
  | k + 1, hk, hX => by
    rw [take_next X off k (by omega), absorbS_append, absorb_in X B hB hp off k (by omega) (by omega)]
    have e : ∀ u : Spg, u.place + 1 ≠ u.rate → absorbS u [X[off + k]] = { mixS u u.place (X[off + k].toNat : Int) with place := u.place + 1 } := fun u hu => by
      show absorb1 u (X[off + k].toNat : Int) = _
      unfold absorb1; rw [if_neg hu]
    rw [e _ (show k + 1 ≠ s.rate by omega), ← hB (off + k) (by omega)]
    rfl
/-- A whole rate is taken. -/
theorem absorb_rate (X : List UInt8) (B : Nat → Int) (hB : ∀ j (h : j < X.length), B j = (X[j].toNat : Int)) {s : Spg} (hp : s.place = 0) (hr : 0 < s.rate) (off : Nat) (hX : off + s.rate ≤ X.length) :
    absorbS s ((X.drop off).take s.rate) = { s with L := permF (mixTo s.L B off s.rate) } := by
  obtain ⟨k, hk⟩ : ∃ k, s.rate = k + 1 := ⟨s.rate - 1, by omega⟩
  have e1 : (X.drop off).take s.rate = (X.drop off).take k ++ [X[off + k]] := by rw [hk]; exact take_next X off k (by omega)
  have e2 : mixTo s.L B off s.rate = mixTo s.L B off (k + 1) := by rw [hk]
  rw [e1, e2, absorbS_append, absorb_in X B hB hp off k (by omega) (by omega)]
  have e : ∀ u : Spg, u.place + 1 = u.rate → absorbS u [X[off + k]] = turnS (mixS u u.place (X[off + k].toNat : Int)) := fun u hu => by
    show absorb1 u (X[off + k].toNat : Int) = _
    unfold absorb1; rw [if_pos hu]
  rw [e _ (show k + 1 = s.rate by omega), ← hB (off + k) (by omega)]
  show Spg.mk (permF (mixTo s.L B off (k + 1))) s.rate s.en 0 s.spent = Spg.mk (permF (mixTo s.L B off (k + 1))) s.rate s.en s.place s.spent
  rw [hp]
theorem absorb_blocks (X : List UInt8) (B : Nat → Int) (hB : ∀ j (h : j < X.length), B j = (X[j].toNat : Int)) {s : Spg} (hp : s.place = 0) (hr : 0 < s.rate) :
    ∀ p, p * s.rate ≤ X.length → absorbS s (X.take (p * s.rate)) = { s with L := blkTo s.L B s.rate p }
  | 0, _ => by rw [Nat.zero_mul]; rfl
  | p + 1, h => by
    have e : (p + 1) * s.rate = p * s.rate + s.rate := by rw [Nat.add_mul, Nat.one_mul]
    rw [e] at h
    rw [e, List.take_add, absorbS_append, absorb_blocks X B hB hp hr p (by omega)]
    exact absorb_rate X B hB (s := { s with L := blkTo s.L B s.rate p }) hp hr (p * s.rate) h
end Go.Proofs.YtikcbdpijjafjaaGreatDoor
